/- Pure: what is written is read; what is read is written. -/
import Derived.Test.YtjgeklipeeooaaaGreatDoorOwnUn
import Derived.Test.YtjgeklipeeooaaaGreatDoorRefSeal
import Derived.Test.YtjgeklipeeooaaaGreatDoorStWideS
import Derived.Test.YtjgeklipeeooaaaGreatDoorStRd2
import Derived.Test.YtjgeklipeeooaaaGreatDoorSumWords3
import Derived.Test.YtjgeklipeeooaaaGreatDoorRefFour
import Derived.Test.YtjgeklipeeooaaaGreatDoorStaOut
import Derived.Test.YtjgeklipeeooaaaGreatDoorCutB
import Derived.Deep.RegionHeld3
import Derived.Deep.DeepCutAuto
namespace Go.Proofs.YtjgeklipeeooaaaGreatDoor
open Go.RowKit
set_option linter.unusedVariables false
set_option maxRecDepth 100000

/-- The head, with its length and its sum. -/
def phead2 (P : PV) (A : AuV) (n s : Int) : List Int := [2, P.typ] ++ numBytes 2 n ++ numBytes 4 P.router ++ numBytes 4 P.area ++ numBytes 2 s ++ numBytes 2 A.kind ++ A.data
theorem length_phead2 (P : PV) (A : AuV) (n s : Int) : (phead2 P A n s).length = 24 := by simp [phead2, numBytes, AuV.data]
/-- The sum that is laid. -/
def psum (P : PV) (A : AuV) (n : Int) (body : List Int) : Int := if A.kind = 2 then 0 else 65535 - fold (W true (summedB (phead2 P A n 0 ++ body)))
theorem sealed_form (P : PV) (A : AuV) (body : List Int) : sealedB A.kind (pheadB P A ++ body) = phead2 P A (24 + (body.length : Int)) (psum P A (24 + (body.length : Int)) body) ++ body := by
  have hl : lenB (pheadB P A ++ body) = phead2 P A (24 + (body.length : Int)) 0 ++ body := by
    unfold lenB
    rw [List.length_append, length_pheadB]
    simp [pheadB, phead2, splice, numBytes2, numBytes4, AuV.data]
  unfold sealedB psum
  by_cases hk : A.kind = 2
  · rw [if_pos hk, if_pos hk, hl]
  · rw [if_neg hk, if_neg hk, hl]
    generalize 65535 - fold (W true (summedB (phead2 P A (24 + (body.length : Int)) 0 ++ body))) = s
    simp [phead2, splice, numBytes2, numBytes4, AuV.data]
theorem summed_sum (P : PV) (A : AuV) (n s : Int) (body : List Int) (h0 : 0 ≤ s) (h1 : s < 65536) : W true (summedB (phead2 P A n s ++ body)) = W true (summedB (phead2 P A n 0 ++ body)) + s := by
  unfold summedB phead2
  simp only [numBytes2, numBytes4, AuV.data, List.cons_append, List.nil_append, List.take, List.drop]
  simp only [W]
  simp
  omega
theorem summed_nonneg (P : PV) (ok : P.Ok) (A : AuV) (oa : A.Ok) (n : Int) (body : List Int) (hb : ∀ z ∈ body, 0 ≤ z ∧ z < 256) : 0 ≤ W true (summedB (phead2 P A n 0 ++ body)) := by
  refine W_nonneg _ _ (summedB_byte ?_)
  unfold phead2
  exact app_bt (app_bt (app_bt (app_bt (app_bt (app_bt (app_bt (two_bt (by omega) ok.typ) (numBytes_byte _ _)) (numBytes_byte _ _)) (numBytes_byte _ _)) (numBytes_byte _ _)) (numBytes_byte _ _)) (data_bt A oa)) hb
theorem psum_bound (P : PV) (A : AuV) (n : Int) (body : List Int) : 0 ≤ psum P A n body ∧ psum P A n body < 65536 := by
  unfold psum
  split
  · omega
  · have := fold_bound (W true (summedB (phead2 P A n 0 ++ body)))
    omega
/-- What a packet's bytes tell. -/
structure PForm (P : PV) (A : AuV) (body : List Int) (L : List Int) (s : Int) : Prop where
  len : L.length = 24 + body.length
  e : pLenE L = 0
  told : pTold L = (24 + body.length : Nat)
  p : pv0 L = { PV.zero with typ := P.typ, router := P.router, area := P.area }
  a : au0 L = A
  b : pbehind L = body
theorem pform (P : PV) (ok : P.Ok) (A : AuV) (oa : A.Ok) (body : List Int) (s : Int) (hl : 24 + body.length ≤ 65535) (ht : 1 ≤ P.typ ∧ P.typ ≤ 5) (h0 : 0 ≤ s) (h1 : s < 65536) : PForm P A body (phead2 P A (24 + (body.length : Int)) s ++ body) s := by
  have hlen : (phead2 P A (24 + (body.length : Int)) s ++ body).length = 24 + body.length := by rw [List.length_append, length_phead2]
  have htold : pTold (phead2 P A (24 + (body.length : Int)) s ++ body) = (24 + body.length : Nat) := by
    have e : ((phead2 P A (24 + (body.length : Int)) s ++ body).drop 2).take 2 = numBytes 2 (24 + (body.length : Int)) := by
      simp [phead2, numBytes2, numBytes4, AuV.data]
    unfold pTold
    rw [e, numOf_two _ (by omega) (by omega)]
    omega
  refine ⟨hlen, ?_, htold, ?_, ?_, ?_⟩
  · refine PLen.zero ⟨by omega, ?_, ?_, ?_⟩
    · simp [phead2]
    · have : (phead2 P A (24 + (body.length : Int)) s ++ body).getD 1 0 = P.typ := by simp [phead2]
      rw [this]
      exact ht
    · rw [htold, hlen]
      omega
  · have e1 : (phead2 P A (24 + (body.length : Int)) s ++ body).getD 1 0 = P.typ := by simp [phead2]
    have e2 : ((phead2 P A (24 + (body.length : Int)) s ++ body).drop 4).take 4 = numBytes 4 P.router := by simp [phead2, numBytes2, numBytes4, AuV.data]
    have e3 : ((phead2 P A (24 + (body.length : Int)) s ++ body).drop 8).take 4 = numBytes 4 P.area := by simp [phead2, numBytes2, numBytes4, AuV.data]
    unfold pv0
    rw [e1, e2, e3, numOf_four _ ok.router.1 ok.router.2, numOf_four _ ok.area.1 ok.area.2]
  · have e1 : ((phead2 P A (24 + (body.length : Int)) s ++ body).drop 14).take 2 = numBytes 2 A.kind := by simp [phead2, numBytes2, numBytes4, AuV.data]
    unfold au0
    rw [e1, numOf_two _ oa.kind.1 oa.kind.2]
    simp [phead2, numBytes2, numBytes4, AuV.data]
  · unfold pbehind
    rw [htold, Int.toNat_natCast, List.take_of_length_le (by omega)]
    rw [List.drop_append_of_le_length (by rw [length_phead2]; omega), List.drop_eq_nil_of_le (by rw [length_phead2]; omega), List.nil_append]
theorem rdKey_keyB (x : KV) (ok : x.All) : rdKey (keyB x) = x := by
  obtain ⟨t, i, a⟩ := x
  have h1 := ok.t; have h2 := ok.i; have h3 := ok.a
  dsimp only at h1 h2 h3
  have e1 : (keyB ⟨t, i, a⟩).take 4 = numBytes 4 t := by simp [keyB, numBytes4]
  have e2 : ((keyB ⟨t, i, a⟩).drop 4).take 4 = numBytes 4 i := by simp [keyB, numBytes4]
  have e3 : ((keyB ⟨t, i, a⟩).drop 8).take 4 = numBytes 4 a := by simp [keyB, numBytes4]
  unfold rdKey
  rw [e1, e2, e3, numOf_four _ (by omega) (by omega), numOf_four _ (by omega) (by omega), numOf_four _ (by omega) (by omega)]
/-- The bytes behind the head are read as they were laid. -/
theorem part_back (C : PkC) (ok : C.Ok) (al : PAlone C) (me : pmeas C = true) (ht : 1 ≤ C.P.typ ∧ C.P.typ ≤ 5) (hl : (pbodyB C).length ≤ 65535) :
    ppartE C.P.typ (pbodyB C) = 0 ∧ ppartC { PV.zero with typ := C.P.typ, router := C.P.router, area := C.P.area } (pbodyB C) = C := by
  obtain ⟨P, nb, dh, ks, ss, hs⟩ := C
  obtain ⟨t, ro, ar, m, iv, op, pr, de, dr, bd, mt, dp, df, ds⟩ := P
  change 1 ≤ t ∧ t ≤ 5 at ht
  have hH : t ≠ 1 → iv = 0 ∧ de = 0 ∧ dr = 0 ∧ bd = 0 ∧ nb = [] ∧ m = 0 ∧ op = 0 ∧ pr = 0 := fun h => by
    have := of_decide_eq_false (al.h h)
    have hn : ¬ 0 < nb.length := fun g => this (by simp only; omega)
    have : nb = [] := List.length_eq_zero_iff.1 (by omega)
    subst this
    refine ⟨?_, ?_, ?_, ?_, rfl, ?_, ?_, ?_⟩ <;> (refine Decidable.byContradiction (fun g => ?_); exact absurd (al.h h) (by simp [hasH, g]))
  have hD : t ≠ 2 → mt = 0 ∧ dp = 0 ∧ df = 0 ∧ ds = 0 ∧ dh = [] := fun h => by
    have := of_decide_eq_false (al.d h)
    have hn : ¬ 0 < dh.length := fun g => this (by simp only; omega)
    have : dh = [] := List.length_eq_zero_iff.1 (by omega)
    subst this
    refine ⟨?_, ?_, ?_, ?_, rfl⟩ <;> (refine Decidable.byContradiction (fun g => ?_); exact absurd (al.d h) (by simp [hasD, g]))
  have hK : t ≠ 3 → ks = [] := al.k
  have hS : t ≠ 4 → ss = [] := al.s
  have hA : t ≠ 5 → hs = [] := al.a
  obtain h1 | h2 | h3 | h4 | h5 : t = 1 ∨ t = 2 ∨ t = 3 ∨ t = 4 ∨ t = 5 := by omega
  · obtain ⟨rfl, rfl, rfl, rfl, rfl⟩ := hD (by omega)
    obtain rfl := hK (by omega); obtain rfl := hS (by omega); obtain rfl := hA (by omega)
    subst h1
    have hb : pbodyB ⟨⟨1, ro, ar, m, iv, op, pr, de, dr, bd, 0, 0, 0, 0⟩, nb, [], [], [], []⟩ = helloB ⟨1, ro, ar, m, iv, op, pr, de, dr, bd, 0, 0, 0, 0⟩ ++ wordsB nb := by simp [pbodyB]
    have hcut : cuts 4 numOf (wordsB nb) = nb := cuts_flat (numBytes 4) numOf 4 (by omega) (fun x => length_numBytes (by omega) x) nb (fun x hx => numOf_four x (ok.nb x hx).1 (ok.nb x hx).2)
    rw [hb]
    have q := ok.P
    constructor
    · unfold ppartE
      rw [if_pos rfl, if_pos]
      rw [List.length_append, length_helloB, length_wordsB]
      omega
    · unfold ppartC
      rw [if_pos rfl]
      have e0 : (helloB ⟨1, ro, ar, m, iv, op, pr, de, dr, bd, 0, 0, 0, 0⟩ ++ wordsB nb).drop 20 = wordsB nb := by
        rw [List.drop_append_of_le_length (by rw [length_helloB]; omega), List.drop_eq_nil_of_le (by rw [length_helloB]; omega), List.nil_append]
      rw [e0, hcut]
      have e1 : (helloB ⟨1, ro, ar, m, iv, op, pr, de, dr, bd, 0, 0, 0, 0⟩ ++ wordsB nb).take 4 = numBytes 4 m := by simp [helloB, numBytes2, numBytes4]
      have e2 : ((helloB ⟨1, ro, ar, m, iv, op, pr, de, dr, bd, 0, 0, 0, 0⟩ ++ wordsB nb).drop 4).take 2 = numBytes 2 iv := by simp [helloB, numBytes2, numBytes4]
      have e3 : ((helloB ⟨1, ro, ar, m, iv, op, pr, de, dr, bd, 0, 0, 0, 0⟩ ++ wordsB nb).drop 8).take 4 = numBytes 4 de := by simp [helloB, numBytes2, numBytes4]
      have e4 : ((helloB ⟨1, ro, ar, m, iv, op, pr, de, dr, bd, 0, 0, 0, 0⟩ ++ wordsB nb).drop 12).take 4 = numBytes 4 dr := by simp [helloB, numBytes2, numBytes4]
      have e5 : ((helloB ⟨1, ro, ar, m, iv, op, pr, de, dr, bd, 0, 0, 0, 0⟩ ++ wordsB nb).drop 16).take 4 = numBytes 4 bd := by simp [helloB, numBytes2, numBytes4]
      have e6 : (helloB ⟨1, ro, ar, m, iv, op, pr, de, dr, bd, 0, 0, 0, 0⟩ ++ wordsB nb).getD 6 0 = op := by simp [helloB, numBytes2, numBytes4]
      have e7 : (helloB ⟨1, ro, ar, m, iv, op, pr, de, dr, bd, 0, 0, 0, 0⟩ ++ wordsB nb).getD 7 0 = pr := by simp [helloB, numBytes2, numBytes4]
      rw [e1, e2, e3, e4, e5, e6, e7, numOf_four _ q.mask.1 q.mask.2, numOf_two _ q.iv.1 q.iv.2, numOf_four _ q.dead.1 q.dead.2, numOf_four _ q.dr.1 q.dr.2, numOf_four _ q.bdr.1 q.bdr.2]
      rfl
  · obtain ⟨rfl, rfl, rfl, rfl, rfl, rfl, rfl, rfl⟩ := hH (by omega)
    obtain rfl := hK (by omega); obtain rfl := hS (by omega); obtain rfl := hA (by omega)
    subst h2
    have hb : pbodyB ⟨⟨2, ro, ar, 0, 0, 0, 0, 0, 0, 0, mt, dp, df, ds⟩, [], dh, [], [], []⟩ = descB ⟨2, ro, ar, 0, 0, 0, 0, 0, 0, 0, mt, dp, df, ds⟩ ++ headsB dh := by simp [pbodyB]
    have hcut : cuts 20 rdHead (headsB dh) = dh := cuts_flat headB rdHead 20 (by omega) length_headB dh (fun x hx => rdHead_headB x (ok.dh x hx))
    rw [hb]
    have q := ok.P
    constructor
    · unfold ppartE
      rw [if_neg (by simp), if_pos rfl, if_pos]
      rw [List.length_append, length_descB, length_headsB]
      omega
    · unfold ppartC
      rw [if_neg (by simp), if_pos rfl]
      have e0 : (descB ⟨2, ro, ar, 0, 0, 0, 0, 0, 0, 0, mt, dp, df, ds⟩ ++ headsB dh).drop 8 = headsB dh := by
        rw [List.drop_append_of_le_length (by rw [length_descB]; omega), List.drop_eq_nil_of_le (by rw [length_descB]; omega), List.nil_append]
      rw [e0, hcut]
      have e1 : (descB ⟨2, ro, ar, 0, 0, 0, 0, 0, 0, 0, mt, dp, df, ds⟩ ++ headsB dh).take 2 = numBytes 2 mt := by simp [descB, numBytes2, numBytes4]
      have e2 : ((descB ⟨2, ro, ar, 0, 0, 0, 0, 0, 0, 0, mt, dp, df, ds⟩ ++ headsB dh).drop 4).take 4 = numBytes 4 ds := by simp [descB, numBytes2, numBytes4]
      have e6 : (descB ⟨2, ro, ar, 0, 0, 0, 0, 0, 0, 0, mt, dp, df, ds⟩ ++ headsB dh).getD 2 0 = dp := by simp [descB, numBytes2, numBytes4]
      have e7 : (descB ⟨2, ro, ar, 0, 0, 0, 0, 0, 0, 0, mt, dp, df, ds⟩ ++ headsB dh).getD 3 0 = df := by simp [descB, numBytes2, numBytes4]
      rw [e1, e2, e6, e7, numOf_two _ q.mtu.1 q.mtu.2, numOf_four _ q.dseq.1 q.dseq.2]
      rfl
  · obtain ⟨rfl, rfl, rfl, rfl, rfl, rfl, rfl, rfl⟩ := hH (by omega)
    obtain ⟨rfl, rfl, rfl, rfl, rfl⟩ := hD (by omega)
    obtain rfl := hS (by omega); obtain rfl := hA (by omega)
    subst h3
    have hb : pbodyB ⟨⟨3, ro, ar, 0, 0, 0, 0, 0, 0, 0, 0, 0, 0, 0⟩, [], [], ks, [], []⟩ = keysB ks := by simp [pbodyB]
    have hcut : cuts 12 rdKey (keysB ks) = ks := cuts_flat keyB rdKey 12 (by omega) length_keyB ks (fun x hx => rdKey_keyB x (ok.ks x hx))
    rw [hb]
    constructor
    · unfold ppartE
      rw [if_neg (by simp), if_neg (by simp), if_pos rfl, if_pos (by rw [length_keysB]; omega), hcut, if_pos]
      exact List.all_eq_true.2 (fun k hk => by have := (ok.ks k hk).t; simp; omega)
    · unfold ppartC
      rw [if_neg (by simp), if_neg (by simp), if_pos rfl, hcut]
      rfl
  · obtain ⟨rfl, rfl, rfl, rfl, rfl, rfl, rfl, rfl⟩ := hH (by omega)
    obtain ⟨rfl, rfl, rfl, rfl, rfl⟩ := hD (by omega)
    obtain rfl := hK (by omega); obtain rfl := hA (by omega)
    subst h4
    have hb : pbodyB ⟨⟨4, ro, ar, 0, 0, 0, 0, 0, 0, 0, 0, 0, 0, 0⟩, [], [], [], ss, []⟩ = numBytes 4 (ss.length : Int) ++ stsP ss := by simp [pbodyB]
    rw [hb] at hl ⊢
    have hsl : 20 * ss.length ≤ (stsP ss).length := by
      clear hl hb ok al me hH hD hK hS hA
      induction ss with
      | nil => simp
      | cons x r ih =>
        have e : stsP (x :: r) = stP x ++ stsP r := by simp [stsP]
        rw [e, List.length_append, List.length_cons, stP, List.length_append, length_headB]
        omega
    have hn4 : (numBytes 4 (ss.length : Int)).length = 4 := length_numBytes (by omega) _
    rw [List.length_append, hn4] at hl
    have hme : ∀ s ∈ ss, s.1.len = 20 + (s.2.length : Int) := fun s hs => by simpa using List.all_eq_true.1 me s hs
    have hr : rdAll (numBytes 4 (ss.length : Int) ++ stsP ss) = some ss := by
      unfold rdAll
      have e1 : (numBytes 4 (ss.length : Int) ++ stsP ss).take 4 = numBytes 4 (ss.length : Int) := by rw [List.take_append_of_le_length (by omega), List.take_of_length_le (by omega)]
      have e2 : (numBytes 4 (ss.length : Int) ++ stsP ss).drop 4 = stsP ss := by rw [List.drop_append_of_le_length (by omega), List.drop_eq_nil_of_le (by omega), List.nil_append]
      rw [e1, e2, numOf_four _ (by omega) (by omega), Int.toNat_natCast, rdPre_lay ss ok.sh hme ss.length (Nat.le_refl _), List.take_length, List.drop_length]
      rfl
    constructor
    · unfold ppartE
      rw [if_neg (by simp), if_neg (by simp), if_neg (by simp), if_pos rfl, if_pos]
      rw [hr, List.length_append, hn4]
      exact ⟨by omega, rfl⟩
    · unfold ppartC
      rw [if_neg (by simp), if_neg (by simp), if_neg (by simp), if_pos rfl, hr]
      rfl
  · obtain ⟨rfl, rfl, rfl, rfl, rfl, rfl, rfl, rfl⟩ := hH (by omega)
    obtain ⟨rfl, rfl, rfl, rfl, rfl⟩ := hD (by omega)
    obtain rfl := hK (by omega); obtain rfl := hS (by omega)
    subst h5
    have hb : pbodyB ⟨⟨5, ro, ar, 0, 0, 0, 0, 0, 0, 0, 0, 0, 0, 0⟩, [], [], [], [], hs⟩ = headsB hs := by simp [pbodyB]
    have hcut : cuts 20 rdHead (headsB hs) = hs := cuts_flat headB rdHead 20 (by omega) length_headB hs (fun x hx => rdHead_headB x (ok.hs x hx))
    rw [hb]
    constructor
    · unfold ppartE
      rw [if_neg (by simp), if_neg (by simp), if_neg (by simp), if_neg (by simp), if_pos]
      rw [length_headsB]
      omega
    · unfold ppartC
      rw [if_neg (by simp), if_neg (by simp), if_neg (by simp), if_neg (by simp), hcut]
      rfl
/-- What Encode makes, Decode reads. -/
structure PRound (C : PkC) (A : AuV) (L : List Int) : Prop where
  e : pdecE L = 0
  c : pdecC L = C
  a : pdecA L = A
  len : pLenE L = 0
  told : pTold L = (L.length : Nat)
  right : A.kind ≠ 2 → pRight L = true
  small : L.length ≤ 65535
  least : 24 ≤ L.length
  bt : ∀ z ∈ L, 0 ≤ z ∧ z < 256
theorem pround {C : PkC} {A : AuV} (ok : C.Ok) (oa : A.Ok) (h : pencE C A = 0) : PRound C A (pencB C A) := by
  have E := pencE_ok h
  have hB : pencB C A = phead2 C.P A (24 + ((pbodyB C).length : Int)) (psum C.P A (24 + ((pbodyB C).length : Int)) (pbodyB C)) ++ pbodyB C := by
    unfold pencB
    rw [if_pos h, sealed_form]
  have sb := psum_bound C.P A (24 + ((pbodyB C).length : Int)) (pbodyB C)
  have hbt := pbody_bt C ok
  obtain ⟨hpe, hpc⟩ := part_back C ok E.a E.m E.t (by have := E.l; omega)
  generalize hs : psum C.P A (24 + ((pbodyB C).length : Int)) (pbodyB C) = s at *
  have F := pform C.P ok.P A oa (pbodyB C) s E.l E.t sb.1 sb.2
  rw [← hB] at F
  have hr : A.kind ≠ 2 → pRight (pencB C A) = true := fun hk => by
    unfold pRight
    rw [F.e, F.told, Int.toNat_natCast, List.take_of_length_le (by have := F.len; omega), hB, summed_sum _ _ _ _ _ sb.1 sb.2]
    have hn := summed_nonneg C.P ok.P A oa (24 + ((pbodyB C).length : Int)) (pbodyB C) hbt
    have : s = 65535 - fold (W true (summedB (phead2 C.P A (24 + ((pbodyB C).length : Int)) 0 ++ pbodyB C))) := by
      rw [← hs]; unfold psum; rw [if_neg hk]
    rw [this, fold_whole hn]
    rfl
  have hD : PDec (pencB C A) := by
    refine ⟨pLenE_ok F.e, by rw [F.a]; exact E.k, fun _ => by rw [F.told, F.len], fun hk => hr (by rw [F.a] at hk; exact hk), ?_⟩
    have e1 : (pencB C A).getD 1 0 = C.P.typ := by have := F.p; unfold pv0 at this; exact congrArg PV.typ this
    rw [e1, F.b]
    exact hpe
  have hz := hD.zero
  refine ⟨hz, ?_, ?_, F.e, by rw [F.told, F.len], hr, by have := F.len; have := E.l; omega, by have := F.len; omega, ?_⟩
  · unfold pdecC
    rw [if_pos hz, F.p, F.b]
    exact hpc
  · unfold pdecA
    rw [if_pos hz, F.a]
  · rw [hB]
    unfold phead2
    exact app_bt (app_bt (app_bt (app_bt (app_bt (app_bt (app_bt (two_bt (by omega) ok.P.typ) (numBytes_byte _ _)) (numBytes_byte _ _)) (numBytes_byte _ _)) (numBytes_byte _ _)) (numBytes_byte _ _)) (data_bt A oa)) hbt
end Go.Proofs.YtjgeklipeeooaaaGreatDoor

namespace Go.Proofs.YtjgeklipeeooaaaGreatDoor
open Go.RowKit
set_option linter.unusedVariables false
set_option maxRecDepth 100000

def FdR (rs : List Int) (s i : Value) : Prop := ∃ (j : Nat) (n : Int), j ≤ rs.length ∧ i = .int .i64 (j : Int) ∧ s = .int .u64 n ∧ 0 ≤ n ∧ n ≤ 65536 * (j : Int) ∧ Hid (n = W true (rs.take j))
def FdR2 (F : Int) (f : Value) : Prop := ∃ n : Int, f = .int .u64 n ∧ 0 ≤ n ∧ n ≤ 4294967296 ∧ Hid (fold n = F)

theorem rfolded_any (v : Value) (rs : List Int) (w : World) (hv : ArgAt w v rs) (hby : ∀ x ∈ rs, 0 ≤ x ∧ x < 256) (hl : rs.length ≤ 65536) :
    Calls Tryz.prog 104 #[v] w fun e w' => e = .returned (.int .u64 (fold (W true rs))) ∧ w = w' := by
  obtain ⟨F, hF⟩ : ∃ F, fold (W true rs) = F := ⟨_, rfl⟩
  have HF : Hid (fold (W true rs) = F) := hF
  rw [hF]
  clear hF
  have HBy : Hid (∀ x ∈ rs, 0 ≤ x ∧ x < 256) := hby
  obtain ⟨va, vc, rfl, hm⟩ := hv.form
  unfold maxLen at hm
  have HV : Hid (ArgAt w (.slice va rs.length vc) rs) := hv
  have hl' : (rs.length : Int) ≤ 65536 := by omega
  clear hv hby
  go_enter Tryz.func104, Tryz.ntmps104
  go_wp2
  go_loop [3, 4] (fun s i => FdR rs s i) (fun _ i => rs.length - (intOf i).toNat)
  case atStart => exact ⟨0, 0, Nat.zero_le _, rfl, rfl, by omega, by omega, rfl⟩
  case round =>
    obtain ⟨j, n, hj, rfl, rfl, hn0, hn1, HN⟩ := hrel
    by_cases hlt : j < rs.length
    · have hr := HV.out.row (by omega)
      obtain ⟨ga, oa, rfl⟩ := rowAt_some hr (by omega)
      have hcx := rowAt_cell hr j hlt
      obtain ⟨hz0, hz1⟩ := getD_byte HBy.out j hlt
      have HE : Hid (j % 2 = 0 → n + 256 * rs.getD j 0 = W true (rs.take (j + 1))) := fun e => by rw [take_next hlt, W_even (by simp; omega), HN.out]
      have HO : Hid (¬ j % 2 = 0 → n + rs.getD j 0 = W true (rs.take (j + 1))) := fun e => by rw [take_next hlt, W_odd (by simp; omega), HN.out]
      revert hcx hz0 hz1 HE HO
      generalize rs.getD j 0 = z
      intro hcx hz0 hz1 HE HO
      have hlt' : (j : Int) < (rs.length : Int) := by omega
      clear hr
      by_cases hp : j % 2 = 0
      · have hp' : (j : Int) % 2 = 0 := by omega
        have HN2 : Hid (FdR rs (.int .u64 (n + 256 * z)) (.int .i64 ((j : Int) + 1))) := ⟨j + 1, n + 256 * z, by omega, by rw [Int.natCast_add]; rfl, rfl, by omega, by omega, HE.out hp⟩
        clear hp HE HO
        go_wp2
        go_round
        case rel => exact HN2.out
        case measure => simp [intOf]; omega
      · have hp' : ((j : Int) % 2 == 0) = false := by simp; omega
        have HN2 : Hid (FdR rs (.int .u64 (n + z)) (.int .i64 ((j : Int) + 1))) := ⟨j + 1, n + z, by omega, by rw [Int.natCast_add]; rfl, rfl, by omega, by omega, HO.out hp⟩
        clear hp HE HO
        go_wp2
        go_round
        case rel => exact HN2.out
        case measure => simp [intOf]; omega
    · obtain rfl : j = rs.length := by omega
      have hq : ¬ (rs.length : Int) < (rs.length : Int) := by omega
      have HN3 : Hid (fold n = F) := by
        show _ = _
        rw [HN.out, List.take_length, HF.out]
      go_wp2
      go_loop [3] (fun f => FdR2 F f) (fun f => (intOf f).toNat)
      case atStart => exact ⟨n, rfl, hn0, by omega, HN3⟩
      case round =>
        obtain ⟨n, rfl, hn0, hn1, HN⟩ := hrel
        by_cases hlt : 65535 < n
        · have HS : Hid (FdR2 F (.int .u64 (n / 65536 + n % 65536))) := ⟨_, rfl, by omega, by omega, by show _ = _; rw [← HN.out]; exact fold_step hlt⟩
          go_wp2
          go_round
          case rel => exact HS.out
          case measure => simp [intOf]; omega
        · have HS : Hid (n = F) := by show _ = _; rw [← HN.out]; exact (fold_small hn0 (by omega)).symm
          go_wp2
          go_ret
          rw [HS.out]
          exact ⟨rfl, rfl⟩

theorem rplain_any (v : Value) (rs : List Int) (w : World) (hv : ArgAt w v rs) (hby : ∀ x ∈ rs, 0 ≤ x ∧ x < 256) (hl : rs.length ≤ 65536) :
    Calls Tryz.prog 40 #[v] w fun e w' => e = .returned (.int .u16 (65535 - fold (W true rs))) ∧ w = w' := by
  have HC := rfolded_any v rs w hv hby hl
  have hb := fold_bound (W true rs)
  revert HC hb
  generalize fold (W true rs) = F
  intro HC hb
  obtain ⟨hb0, hb1⟩ := hb
  clear hv
  go_enter Tryz.func40, Tryz.ntmps40
  go_wp2_with fail
  refine HC.mono ?_
  rintro e w1 ⟨rfl, rfl⟩
  go_wp2
  go_ret
  exact ⟨rfl, rfl⟩
end Go.Proofs.YtjgeklipeeooaaaGreatDoor

namespace Go.Proofs.YtjgeklipeeooaaaGreatDoor
open Go.RowKit
set_option linter.unusedVariables false
set_option maxRecDepth 100000

set_option maxHeartbeats 1000000 in
theorem dsummed_any (v : Value) (rs : List Int) (w : World) (hv : ArgAt w v rs) (hl : 24 ≤ rs.length) (hn : rs.length ≤ 1000000) :
    Calls Tryz.prog 41 #[v] w fun e w' => ∃ v', e = .returned v' ∧ Buf w w' v' (summedB rs) := by
  obtain ⟨va, vc, rfl, -⟩ := hv.form
  obtain ⟨u1, hu1, ua1⟩ := cut_to hv rfl (by omega) 16 (by omega)
  obtain ⟨u2, hu2, ua2⟩ := cut_from hv rfl (by omega) 24 (by omega)
  replace hu1 : ∀ w, Sem.run Tryz.prog (Instr.slice 40 (.slice va rs.length vc) none (some (.int .i64 16)) none) w = .ok u1 w := hu1
  replace hu2 : ∀ w, Sem.run Tryz.prog (Instr.slice 40 (.slice va rs.length vc) (some (.int .i64 24)) none none) w = .ok u2 w := hu2
  have hl1 : (rs.take 16).length ≤ 1000000 := by rw [List.length_take]; omega
  have hl2 : (rs.drop 24).length ≤ 1000000 := by rw [List.length_drop]; omega
  have HS : Hid (rs.take 16 ++ rs.drop 24 = summedB rs) := rfl
  have U1 : Hid (ArgAt w u1 (rs.take 16)) := ua1
  have U2 : Hid (ArgAt w u2 (rs.drop 24)) := ua2
  clear ua1 ua2 hv
  generalize summedB rs = SB at *
  generalize rs.take 16 = r1 at *
  generalize rs.drop 24 = r2 at *
  clear hl hn
  have HL : Hid (r1.length ≤ 1000000 ∧ r2.length ≤ 1000000) := ⟨hl1, hl2⟩
  clear hl1 hl2
  go_enter Tryz.func41, Tryz.ntmps41
  go_wp2_with (first | (at_builtin; refine app_arg rfl (.tmp 4) (.tmp 6) rfl w _ [] rfl (Buf.nil (Touch.refl _ _)) _ r1 rfl U1.out (by have := HL.out; simp; omega) ?_; intro p3 w3 hb3; rw [List.nil_append] at hb3; have B3 : Hid (Buf w w3 p3 r1) := hb3; clear hb3) | (at_builtin; refine app_arg rfl (.tmp 8) (.tmp 10) rfl w _ r1 rfl B3.out _ r2 rfl (U2.out.keep B3.out.t (fun _ _ h => h)) (by have := HL.out; omega) ?_; intro p4 w4 hb4; rw [HS.out] at hb4; have B4 : Hid (Buf w w4 p4 SB) := hb4; clear hb4))
  go_ret
  exact ⟨p4, rfl, B4.out⟩

end Go.Proofs.YtjgeklipeeooaaaGreatDoor
