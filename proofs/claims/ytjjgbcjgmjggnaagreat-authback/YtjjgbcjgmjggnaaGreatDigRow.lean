/- Pure: what is written is read; what is read is written. -/
import Derived.Test.YtjjgbcjgmjggnaaGreatPkWrite1
import Derived.Test.YtjjgbcjgmjggnaaGreatReader
import Derived.Test.YtjjgbcjgmjggnaaGreatDigBase
import Derived.Test.YtjjgbcjgmjggnaaGreatStRead3
import Derived.Laws.Rows
import Derived.Laws.Tables
namespace Go.Proofs.YtjjgbcjgmjggnaaGreat
open Go.RowKit
set_option linter.unusedVariables false
set_option maxRecDepth 100000

/-- The head, with its length and its sum. -/
def phead2 (P : PV) (A : AuV) (n s : Int) : List Int := [2, P.typ] ++ numBytes 2 n ++ numBytes 4 P.router ++ numBytes 4 P.area ++ numBytes 2 s ++ numBytes 2 A.kind ++ A.data
theorem length_phead2 (P : PV) (A : AuV) (n s : Int) : (phead2 P A n s).length = 24 := by simp [phead2, numBytes, AuV.data]
/-- The sum that is laid. -/
def psum (P : PV) (A : AuV) (n : Int) (body : List Int) : Int := if A.kind = 2 then 0 else 65535 - fold (W true (summedB (phead2 P A n 0 ++ body)))
theorem sealed_form (P : PV) (A : AuV) (body : List Int) : sealedB A.kind (pheadB P A ++ body) = phead2 P A (24 + (body.length : Int)) (psum P A (24 + (body.length : Int)) body) ++ body := by
  have hl : lenB (pheadB P A ++ body) = phead2 P A (24 + (body.length : Int)) 0 ++ body := by
    unfold lenB
    rw [List.length_append, length_pheadB]
    simp [pheadB, phead2, splice, numBytes2, numBytes4, AuV.data]
  unfold sealedB psum
  by_cases hk : A.kind = 2
  · rw [if_pos hk, if_pos hk, hl]
  · rw [if_neg hk, if_neg hk, hl]
    generalize 65535 - fold (W true (summedB (phead2 P A (24 + (body.length : Int)) 0 ++ body))) = s
    simp [phead2, splice, numBytes2, numBytes4, AuV.data]
theorem summed_sum (P : PV) (A : AuV) (n s : Int) (body : List Int) (h0 : 0 ≤ s) (h1 : s < 65536) : W true (summedB (phead2 P A n s ++ body)) = W true (summedB (phead2 P A n 0 ++ body)) + s := by
  unfold summedB phead2
  simp only [numBytes2, numBytes4, AuV.data, List.cons_append, List.nil_append, List.take, List.drop]
  simp only [W]
  simp
  omega
theorem summed_nonneg (P : PV) (ok : P.Ok) (A : AuV) (oa : A.Ok) (n : Int) (body : List Int) (hb : ∀ z ∈ body, 0 ≤ z ∧ z < 256) : 0 ≤ W true (summedB (phead2 P A n 0 ++ body)) := by
  refine W_nonneg _ _ (summedB_byte ?_)
  unfold phead2
  exact app_bt (app_bt (app_bt (app_bt (app_bt (app_bt (app_bt (two_bt (by omega) ok.typ) (numBytes_byte _ _)) (numBytes_byte _ _)) (numBytes_byte _ _)) (numBytes_byte _ _)) (numBytes_byte _ _)) (data_bt A oa)) hb
theorem psum_bound (P : PV) (A : AuV) (n : Int) (body : List Int) : 0 ≤ psum P A n body ∧ psum P A n body < 65536 := by
  unfold psum
  split
  · omega
  · have := fold_bound (W true (summedB (phead2 P A n 0 ++ body)))
    omega
/-- What a packet's bytes tell. -/
structure PForm (P : PV) (A : AuV) (body : List Int) (L : List Int) (s : Int) : Prop where
  len : L.length = 24 + body.length
  e : pLenE L = 0
  told : pTold L = (24 + body.length : Nat)
  p : pv0 L = { PV.zero with typ := P.typ, router := P.router, area := P.area }
  a : au0 L = A
  b : pbehind L = body
theorem pform (P : PV) (ok : P.Ok) (A : AuV) (oa : A.Ok) (body : List Int) (s : Int) (hl : 24 + body.length ≤ 65535) (ht : 1 ≤ P.typ ∧ P.typ ≤ 5) (h0 : 0 ≤ s) (h1 : s < 65536) : PForm P A body (phead2 P A (24 + (body.length : Int)) s ++ body) s := by
  have hlen : (phead2 P A (24 + (body.length : Int)) s ++ body).length = 24 + body.length := by rw [List.length_append, length_phead2]
  have htold : pTold (phead2 P A (24 + (body.length : Int)) s ++ body) = (24 + body.length : Nat) := by
    have e : ((phead2 P A (24 + (body.length : Int)) s ++ body).drop 2).take 2 = numBytes 2 (24 + (body.length : Int)) := by
      simp [phead2, numBytes2, numBytes4, AuV.data]
    unfold pTold
    rw [e, numOf_two _ (by omega) (by omega)]
    omega
  refine ⟨hlen, ?_, htold, ?_, ?_, ?_⟩
  · refine PLen.zero ⟨by omega, ?_, ?_, ?_⟩
    · simp [phead2]
    · have : (phead2 P A (24 + (body.length : Int)) s ++ body).getD 1 0 = P.typ := by simp [phead2]
      rw [this]
      exact ht
    · rw [htold, hlen]
      omega
  · have e1 : (phead2 P A (24 + (body.length : Int)) s ++ body).getD 1 0 = P.typ := by simp [phead2]
    have e2 : ((phead2 P A (24 + (body.length : Int)) s ++ body).drop 4).take 4 = numBytes 4 P.router := by simp [phead2, numBytes2, numBytes4, AuV.data]
    have e3 : ((phead2 P A (24 + (body.length : Int)) s ++ body).drop 8).take 4 = numBytes 4 P.area := by simp [phead2, numBytes2, numBytes4, AuV.data]
    unfold pv0
    rw [e1, e2, e3, numOf_four _ ok.router.1 ok.router.2, numOf_four _ ok.area.1 ok.area.2]
  · have e1 : ((phead2 P A (24 + (body.length : Int)) s ++ body).drop 14).take 2 = numBytes 2 A.kind := by simp [phead2, numBytes2, numBytes4, AuV.data]
    unfold au0
    rw [e1, numOf_two _ oa.kind.1 oa.kind.2]
    simp [phead2, numBytes2, numBytes4, AuV.data]
  · unfold pbehind
    rw [htold, Int.toNat_natCast, List.take_of_length_le (by omega)]
    rw [List.drop_append_of_le_length (by rw [length_phead2]; omega), List.drop_eq_nil_of_le (by rw [length_phead2]; omega), List.nil_append]
theorem rdKey_keyB (x : KV) (ok : x.All) : rdKey (keyB x) = x := by
  obtain ⟨t, i, a⟩ := x
  have h1 := ok.t; have h2 := ok.i; have h3 := ok.a
  dsimp only at h1 h2 h3
  have e1 : (keyB ⟨t, i, a⟩).take 4 = numBytes 4 t := by simp [keyB, numBytes4]
  have e2 : ((keyB ⟨t, i, a⟩).drop 4).take 4 = numBytes 4 i := by simp [keyB, numBytes4]
  have e3 : ((keyB ⟨t, i, a⟩).drop 8).take 4 = numBytes 4 a := by simp [keyB, numBytes4]
  unfold rdKey
  rw [e1, e2, e3, numOf_four _ (by omega) (by omega), numOf_four _ (by omega) (by omega), numOf_four _ (by omega) (by omega)]
/-- The bytes behind the head are read as they were laid. -/
theorem part_back (C : PkC) (ok : C.Ok) (al : PAlone C) (me : pmeas C = true) (ht : 1 ≤ C.P.typ ∧ C.P.typ ≤ 5) (hl : (pbodyB C).length ≤ 65535) :
    ppartE C.P.typ (pbodyB C) = 0 ∧ ppartC { PV.zero with typ := C.P.typ, router := C.P.router, area := C.P.area } (pbodyB C) = C := by
  obtain ⟨P, nb, dh, ks, ss, hs⟩ := C
  obtain ⟨t, ro, ar, m, iv, op, pr, de, dr, bd, mt, dp, df, ds⟩ := P
  change 1 ≤ t ∧ t ≤ 5 at ht
  have hH : t ≠ 1 → iv = 0 ∧ de = 0 ∧ dr = 0 ∧ bd = 0 ∧ nb = [] ∧ m = 0 ∧ op = 0 ∧ pr = 0 := fun h => by
    have := of_decide_eq_false (al.h h)
    have hn : ¬ 0 < nb.length := fun g => this (by simp only; omega)
    have : nb = [] := List.length_eq_zero_iff.1 (by omega)
    subst this
    refine ⟨?_, ?_, ?_, ?_, rfl, ?_, ?_, ?_⟩ <;> (refine Decidable.byContradiction (fun g => ?_); exact absurd (al.h h) (by simp [hasH, g]))
  have hD : t ≠ 2 → mt = 0 ∧ dp = 0 ∧ df = 0 ∧ ds = 0 ∧ dh = [] := fun h => by
    have := of_decide_eq_false (al.d h)
    have hn : ¬ 0 < dh.length := fun g => this (by simp only; omega)
    have : dh = [] := List.length_eq_zero_iff.1 (by omega)
    subst this
    refine ⟨?_, ?_, ?_, ?_, rfl⟩ <;> (refine Decidable.byContradiction (fun g => ?_); exact absurd (al.d h) (by simp [hasD, g]))
  have hK : t ≠ 3 → ks = [] := al.k
  have hS : t ≠ 4 → ss = [] := al.s
  have hA : t ≠ 5 → hs = [] := al.a
  obtain h1 | h2 | h3 | h4 | h5 : t = 1 ∨ t = 2 ∨ t = 3 ∨ t = 4 ∨ t = 5 := by omega
  · obtain ⟨rfl, rfl, rfl, rfl, rfl⟩ := hD (by omega)
    obtain rfl := hK (by omega); obtain rfl := hS (by omega); obtain rfl := hA (by omega)
    subst h1
    have hb : pbodyB ⟨⟨1, ro, ar, m, iv, op, pr, de, dr, bd, 0, 0, 0, 0⟩, nb, [], [], [], []⟩ = helloB ⟨1, ro, ar, m, iv, op, pr, de, dr, bd, 0, 0, 0, 0⟩ ++ wordsB nb := by simp [pbodyB]
    have hcut : cuts 4 numOf (wordsB nb) = nb := cuts_flat (numBytes 4) numOf 4 (by omega) (fun x => length_numBytes (by omega) x) nb (fun x hx => numOf_four x (ok.nb x hx).1 (ok.nb x hx).2)
    rw [hb]
    have q := ok.P
    constructor
    · unfold ppartE
      rw [if_pos rfl, if_pos]
      rw [List.length_append, length_helloB, length_wordsB]
      omega
    · unfold ppartC
      rw [if_pos rfl]
      have e0 : (helloB ⟨1, ro, ar, m, iv, op, pr, de, dr, bd, 0, 0, 0, 0⟩ ++ wordsB nb).drop 20 = wordsB nb := by
        rw [List.drop_append_of_le_length (by rw [length_helloB]; omega), List.drop_eq_nil_of_le (by rw [length_helloB]; omega), List.nil_append]
      rw [e0, hcut]
      have e1 : (helloB ⟨1, ro, ar, m, iv, op, pr, de, dr, bd, 0, 0, 0, 0⟩ ++ wordsB nb).take 4 = numBytes 4 m := by simp [helloB, numBytes2, numBytes4]
      have e2 : ((helloB ⟨1, ro, ar, m, iv, op, pr, de, dr, bd, 0, 0, 0, 0⟩ ++ wordsB nb).drop 4).take 2 = numBytes 2 iv := by simp [helloB, numBytes2, numBytes4]
      have e3 : ((helloB ⟨1, ro, ar, m, iv, op, pr, de, dr, bd, 0, 0, 0, 0⟩ ++ wordsB nb).drop 8).take 4 = numBytes 4 de := by simp [helloB, numBytes2, numBytes4]
      have e4 : ((helloB ⟨1, ro, ar, m, iv, op, pr, de, dr, bd, 0, 0, 0, 0⟩ ++ wordsB nb).drop 12).take 4 = numBytes 4 dr := by simp [helloB, numBytes2, numBytes4]
      have e5 : ((helloB ⟨1, ro, ar, m, iv, op, pr, de, dr, bd, 0, 0, 0, 0⟩ ++ wordsB nb).drop 16).take 4 = numBytes 4 bd := by simp [helloB, numBytes2, numBytes4]
      have e6 : (helloB ⟨1, ro, ar, m, iv, op, pr, de, dr, bd, 0, 0, 0, 0⟩ ++ wordsB nb).getD 6 0 = op := by simp [helloB, numBytes2, numBytes4]
      have e7 : (helloB ⟨1, ro, ar, m, iv, op, pr, de, dr, bd, 0, 0, 0, 0⟩ ++ wordsB nb).getD 7 0 = pr := by simp [helloB, numBytes2, numBytes4]
      rw [e1, e2, e3, e4, e5, e6, e7, numOf_four _ q.mask.1 q.mask.2, numOf_two _ q.iv.1 q.iv.2, numOf_four _ q.dead.1 q.dead.2, numOf_four _ q.dr.1 q.dr.2, numOf_four _ q.bdr.1 q.bdr.2]
      rfl
  · obtain ⟨rfl, rfl, rfl, rfl, rfl, rfl, rfl, rfl⟩ := hH (by omega)
    obtain rfl := hK (by omega); obtain rfl := hS (by omega); obtain rfl := hA (by omega)
    subst h2
    have hb : pbodyB ⟨⟨2, ro, ar, 0, 0, 0, 0, 0, 0, 0, mt, dp, df, ds⟩, [], dh, [], [], []⟩ = descB ⟨2, ro, ar, 0, 0, 0, 0, 0, 0, 0, mt, dp, df, ds⟩ ++ headsB dh := by simp [pbodyB]
    have hcut : cuts 20 rdHead (headsB dh) = dh := cuts_flat headB rdHead 20 (by omega) length_headB dh (fun x hx => rdHead_headB x (ok.dh x hx))
    rw [hb]
    have q := ok.P
    constructor
    · unfold ppartE
      rw [if_neg (by simp), if_pos rfl, if_pos]
      rw [List.length_append, length_descB, length_headsB]
      omega
    · unfold ppartC
      rw [if_neg (by simp), if_pos rfl]
      have e0 : (descB ⟨2, ro, ar, 0, 0, 0, 0, 0, 0, 0, mt, dp, df, ds⟩ ++ headsB dh).drop 8 = headsB dh := by
        rw [List.drop_append_of_le_length (by rw [length_descB]; omega), List.drop_eq_nil_of_le (by rw [length_descB]; omega), List.nil_append]
      rw [e0, hcut]
      have e1 : (descB ⟨2, ro, ar, 0, 0, 0, 0, 0, 0, 0, mt, dp, df, ds⟩ ++ headsB dh).take 2 = numBytes 2 mt := by simp [descB, numBytes2, numBytes4]
      have e2 : ((descB ⟨2, ro, ar, 0, 0, 0, 0, 0, 0, 0, mt, dp, df, ds⟩ ++ headsB dh).drop 4).take 4 = numBytes 4 ds := by simp [descB, numBytes2, numBytes4]
      have e6 : (descB ⟨2, ro, ar, 0, 0, 0, 0, 0, 0, 0, mt, dp, df, ds⟩ ++ headsB dh).getD 2 0 = dp := by simp [descB, numBytes2, numBytes4]
      have e7 : (descB ⟨2, ro, ar, 0, 0, 0, 0, 0, 0, 0, mt, dp, df, ds⟩ ++ headsB dh).getD 3 0 = df := by simp [descB, numBytes2, numBytes4]
      rw [e1, e2, e6, e7, numOf_two _ q.mtu.1 q.mtu.2, numOf_four _ q.dseq.1 q.dseq.2]
      rfl
  · obtain ⟨rfl, rfl, rfl, rfl, rfl, rfl, rfl, rfl⟩ := hH (by omega)
    obtain ⟨rfl, rfl, rfl, rfl, rfl⟩ := hD (by omega)
    obtain rfl := hS (by omega); obtain rfl := hA (by omega)
    subst h3
    have hb : pbodyB ⟨⟨3, ro, ar, 0, 0, 0, 0, 0, 0, 0, 0, 0, 0, 0⟩, [], [], ks, [], []⟩ = keysB ks := by simp [pbodyB]
    have hcut : cuts 12 rdKey (keysB ks) = ks := cuts_flat keyB rdKey 12 (by omega) length_keyB ks (fun x hx => rdKey_keyB x (ok.ks x hx))
    rw [hb]
    constructor
    · unfold ppartE
      rw [if_neg (by simp), if_neg (by simp), if_pos rfl, if_pos (by rw [length_keysB]; omega), hcut, if_pos]
      exact List.all_eq_true.2 (fun k hk => by have := (ok.ks k hk).t; simp; omega)
    · unfold ppartC
      rw [if_neg (by simp), if_neg (by simp), if_pos rfl, hcut]
      rfl
  · obtain ⟨rfl, rfl, rfl, rfl, rfl, rfl, rfl, rfl⟩ := hH (by omega)
    obtain ⟨rfl, rfl, rfl, rfl, rfl⟩ := hD (by omega)
    obtain rfl := hK (by omega); obtain rfl := hA (by omega)
    subst h4
    have hb : pbodyB ⟨⟨4, ro, ar, 0, 0, 0, 0, 0, 0, 0, 0, 0, 0, 0⟩, [], [], [], ss, []⟩ = numBytes 4 (ss.length : Int) ++ stsP ss := by simp [pbodyB]
    rw [hb] at hl ⊢
    have hsl : 20 * ss.length ≤ (stsP ss).length := by
      clear hl hb ok al me hH hD hK hS hA
      induction ss with
      | nil => simp
      | cons x r ih =>
        have e : stsP (x :: r) = stP x ++ stsP r := by simp [stsP]
        rw [e, List.length_append, List.length_cons, stP, List.length_append, length_headB]
        omega
    have hn4 : (numBytes 4 (ss.length : Int)).length = 4 := length_numBytes (by omega) _
    rw [List.length_append, hn4] at hl
    have hme : ∀ s ∈ ss, s.1.len = 20 + (s.2.length : Int) := fun s hs => by simpa using List.all_eq_true.1 me s hs
    have hr : rdAll (numBytes 4 (ss.length : Int) ++ stsP ss) = some ss := by
      unfold rdAll
      have e1 : (numBytes 4 (ss.length : Int) ++ stsP ss).take 4 = numBytes 4 (ss.length : Int) := by rw [List.take_append_of_le_length (by omega), List.take_of_length_le (by omega)]
      have e2 : (numBytes 4 (ss.length : Int) ++ stsP ss).drop 4 = stsP ss := by rw [List.drop_append_of_le_length (by omega), List.drop_eq_nil_of_le (by omega), List.nil_append]
      rw [e1, e2, numOf_four _ (by omega) (by omega), Int.toNat_natCast, rdPre_lay ss ok.sh hme ss.length (Nat.le_refl _), List.take_length, List.drop_length]
      rfl
    constructor
    · unfold ppartE
      rw [if_neg (by simp), if_neg (by simp), if_neg (by simp), if_pos rfl, if_pos]
      rw [hr, List.length_append, hn4]
      exact ⟨by omega, rfl⟩
    · unfold ppartC
      rw [if_neg (by simp), if_neg (by simp), if_neg (by simp), if_pos rfl, hr]
      rfl
  · obtain ⟨rfl, rfl, rfl, rfl, rfl, rfl, rfl, rfl⟩ := hH (by omega)
    obtain ⟨rfl, rfl, rfl, rfl, rfl⟩ := hD (by omega)
    obtain rfl := hK (by omega); obtain rfl := hS (by omega)
    subst h5
    have hb : pbodyB ⟨⟨5, ro, ar, 0, 0, 0, 0, 0, 0, 0, 0, 0, 0, 0⟩, [], [], [], [], hs⟩ = headsB hs := by simp [pbodyB]
    have hcut : cuts 20 rdHead (headsB hs) = hs := cuts_flat headB rdHead 20 (by omega) length_headB hs (fun x hx => rdHead_headB x (ok.hs x hx))
    rw [hb]
    constructor
    · unfold ppartE
      rw [if_neg (by simp), if_neg (by simp), if_neg (by simp), if_neg (by simp), if_pos]
      rw [length_headsB]
      omega
    · unfold ppartC
      rw [if_neg (by simp), if_neg (by simp), if_neg (by simp), if_neg (by simp), hcut]
      rfl
/-- What Encode makes, Decode reads. -/
structure PRound (C : PkC) (A : AuV) (L : List Int) : Prop where
  e : pdecE L = 0
  c : pdecC L = C
  a : pdecA L = A
  len : pLenE L = 0
  told : pTold L = (L.length : Nat)
  right : A.kind ≠ 2 → pRight L = true
  small : L.length ≤ 65535
  least : 24 ≤ L.length
  bt : ∀ z ∈ L, 0 ≤ z ∧ z < 256
theorem pround {C : PkC} {A : AuV} (ok : C.Ok) (oa : A.Ok) (h : pencE C A = 0) : PRound C A (pencB C A) := by
  have E := pencE_ok h
  have hB : pencB C A = phead2 C.P A (24 + ((pbodyB C).length : Int)) (psum C.P A (24 + ((pbodyB C).length : Int)) (pbodyB C)) ++ pbodyB C := by
    unfold pencB
    rw [if_pos h, sealed_form]
  have sb := psum_bound C.P A (24 + ((pbodyB C).length : Int)) (pbodyB C)
  have hbt := pbody_bt C ok
  obtain ⟨hpe, hpc⟩ := part_back C ok E.a E.m E.t (by have := E.l; omega)
  generalize hs : psum C.P A (24 + ((pbodyB C).length : Int)) (pbodyB C) = s at *
  have F := pform C.P ok.P A oa (pbodyB C) s E.l E.t sb.1 sb.2
  rw [← hB] at F
  have hr : A.kind ≠ 2 → pRight (pencB C A) = true := fun hk => by
    unfold pRight
    rw [F.e, F.told, Int.toNat_natCast, List.take_of_length_le (by have := F.len; omega), hB, summed_sum _ _ _ _ _ sb.1 sb.2]
    have hn := summed_nonneg C.P ok.P A oa (24 + ((pbodyB C).length : Int)) (pbodyB C) hbt
    have : s = 65535 - fold (W true (summedB (phead2 C.P A (24 + ((pbodyB C).length : Int)) 0 ++ pbodyB C))) := by
      rw [← hs]; unfold psum; rw [if_neg hk]
    rw [this, fold_whole hn]
    rfl
  have hD : PDec (pencB C A) := by
    refine ⟨pLenE_ok F.e, by rw [F.a]; exact E.k, fun _ => by rw [F.told, F.len], fun hk => hr (by rw [F.a] at hk; exact hk), ?_⟩
    have e1 : (pencB C A).getD 1 0 = C.P.typ := by have := F.p; unfold pv0 at this; exact congrArg PV.typ this
    rw [e1, F.b]
    exact hpe
  have hz := hD.zero
  refine ⟨hz, ?_, ?_, F.e, by rw [F.told, F.len], hr, by have := F.len; have := E.l; omega, by have := F.len; omega, ?_⟩
  · unfold pdecC
    rw [if_pos hz, F.p, F.b]
    exact hpc
  · unfold pdecA
    rw [if_pos hz, F.a]
  · rw [hB]
    unfold phead2
    exact app_bt (app_bt (app_bt (app_bt (app_bt (app_bt (app_bt (two_bt (by omega) ok.P.typ) (numBytes_byte _ _)) (numBytes_byte _ _)) (numBytes_byte _ _)) (numBytes_byte _ _)) (numBytes_byte _ _)) (data_bt A oa)) hbt
end Go.Proofs.YtjjgbcjgmjggnaaGreat

namespace Go.Proofs.YtjjgbcjgmjggnaaGreat
open Go.RowKit
set_option linter.unusedVariables false
set_option maxRecDepth 100000

def auOf (kind : Int) (d : List Int) : AuV := ⟨kind, d.getD 0 0, d.getD 1 0, d.getD 2 0, d.getD 3 0, d.getD 4 0, d.getD 5 0, d.getD 6 0, d.getD 7 0⟩
def au00 : AuV := ⟨0, 0, 0, 0, 0, 0, 0, 0, 0⟩
theorem au00_ok : au00.Ok := ⟨by decide, by decide, by decide, by decide, by decide, by decide, by decide, by decide, by decide⟩
theorem auOf_data {kind : Int} {d : List Int} (h : d.length = 8) : (auOf kind d).data = d := by
  match d, h with
  | [a, b, c, e, f, g, i, j], _ => rfl
theorem auOf_ok {kind : Int} {d : List Int} (h : d.length = 8) (hk : 0 ≤ kind ∧ kind < 65536) (hb : ∀ z ∈ d, 0 ≤ z ∧ z < 256) : (auOf kind d).Ok := by
  match d, h with
  | [a, b, c, e, f, g, i, j], _ => exact ⟨hk, hb a (by simp), hb b (by simp), hb c (by simp), hb e (by simp), hb f (by simp), hb g (by simp), hb i (by simp), hb j (by simp)⟩
theorem bp_passB_byte {sec : List Int} (h : ∀ z ∈ sec, 0 ≤ z ∧ z < 256) : ∀ z ∈ passB sec, 0 ≤ z ∧ z < 256 := by
  intro z hz
  unfold passB at hz
  rcases List.mem_append.1 hz with hz | hz
  · exact h z (List.mem_of_mem_take hz)
  · have := List.eq_of_mem_replicate hz
    omega
/-- What is said in a packet's head. -/
theorem sayB_head (P : PV) (A : AuV) (n s : Int) (body : List Int) (right kind : Int) {d : List Int} (hd : d.length = 8) : sayB (phead2 P A n s ++ body) right kind d = phead2 P (auOf kind d) n right ++ body := by
  have e1 : (phead2 P A n s ++ body).take 12 = [2, P.typ] ++ numBytes 2 n ++ numBytes 4 P.router ++ numBytes 4 P.area := by simp [phead2, numBytes2, numBytes4, AuV.data]
  have e2 : (phead2 P A n s ++ body).drop 24 = body := by rw [List.drop_append_of_le_length (by rw [length_phead2]; omega)]; simp [phead2, numBytes2, numBytes4, AuV.data]
  unfold sayB
  rw [e1, e2]
  unfold phead2
  rw [auOf_data hd]
  rfl
theorem kindB_head (P : PV) (A : AuV) (n s : Int) (body : List Int) (h0 : 0 ≤ A.kind) (h1 : A.kind < 65536) : kindB (phead2 P A n s ++ body) = A.kind := by
  have e : ((phead2 P A n s ++ body).drop 14).take 2 = numBytes 2 A.kind := by simp [phead2, numBytes2, numBytes4, AuV.data]
  unfold kindB
  rw [e, numOf_two _ h0 h1]
theorem dataB_head (P : PV) (A : AuV) (n s : Int) (body : List Int) : dataB (phead2 P A n s ++ body) = A.data := by
  unfold dataB
  simp [phead2, numBytes2, numBytes4, AuV.data]
theorem plainSum_head (P : PV) (A : AuV) (n s : Int) (body : List Int) {d : List Int} (hd : d.length = 8) : plainSum (phead2 P A n s ++ body) = psum P (auOf 1 d) n body := by
  unfold plainSum psum
  rw [if_neg (by simp [auOf]), sayB_head P A n s body 0 1 (by simp)]
  have : W true (phead2 P (auOf 1 (List.replicate 8 0)) n 0 ++ body) = W true (summedB (phead2 P (auOf 1 d) n 0 ++ body)) := by
    unfold summedB phead2
    simp only [numBytes2, numBytes4, AuV.data, auOf, List.cons_append, List.nil_append, List.take, List.drop]
    simp [W]
  rw [this]
theorem penc_form {C : PkC} {A : AuV} (h : pencE C A = 0) : pencB C A = phead2 C.P A (24 + ((pbodyB C).length : Int)) (psum C.P A (24 + ((pbodyB C).length : Int)) (pbodyB C)) ++ pbodyB C := by
  unfold pencB
  rw [if_pos h, sealed_form]
theorem penc_other {C : PkC} {A B : AuV} (h : pencE C A = 0) (hb : B.kind ≤ 2) : pencE C B = 0 := by
  have E := pencE_ok h
  exact PEnc.zero ⟨E.t, E.a, E.m, hb, E.l⟩
/-- Signed with a password: the encoding with it. -/
theorem signPl_enc {C : PkC} {A : AuV} (h : pencE C A = 0) (k : AKP) : signPl (pencB C A) k = pencB C (auOf 1 (passB k.sec)) := by
  have h1 : pencE C (auOf 1 (passB k.sec)) = 0 := penc_other h (by simp [auOf])
  unfold signPl
  rw [penc_form h, penc_form h1, plainSum_head _ _ _ _ _ (length_passB k.sec), sayB_head _ _ _ _ _ _ _ (length_passB k.sec)]
/-- Signed with a digest: the encoding with its mark, and the digest behind it. -/
theorem bp_length_markB (id seq : Int) : (markB id seq).length = 8 := by simp [markB, numBytes4]
theorem signDg_enc {C : PkC} {A : AuV} (h : pencE C A = 0) (k : AKP) (seq : Int) : signDg (pencB C A) k seq = pencB C (auOf 2 (markB k.id seq)) ++ keyedB k.sec (pencB C (auOf 2 (markB k.id seq))) := by
  have h1 : pencE C (auOf 2 (markB k.id seq)) = 0 := penc_other h (by simp [auOf])
  unfold signDg
  rw [penc_form h, penc_form h1, sayB_head _ _ _ _ _ _ _ (bp_length_markB k.id seq)]
  have : psum C.P (auOf 2 (markB k.id seq)) (24 + ((pbodyB C).length : Int)) (pbodyB C) = 0 := by unfold psum; rw [if_pos (by rfl)]
  rw [this]
/-- A packet that Encode made is not signed, and right. -/
theorem uns_enc {C : PkC} (ok : C.Ok) (h : pencE C au00 = 0) : unsE (pencB C au00) = 0 := by
  have R := pround ok au00_ok h
  have hk : kindB (pencB C au00) = 0 := by rw [penc_form h]; exact kindB_head _ _ _ _ _ (by decide) (by decide)
  unfold unsE
  rw [if_neg (fun e => e R.len), R.told, if_neg (by omega), if_neg (fun e => e hk), R.right (by decide), if_neg (by decide)]
end Go.Proofs.YtjjgbcjgmjggnaaGreat

namespace Go.Proofs.YtjjgbcjgmjggnaaGreat
open Go.RowKit
set_option linter.unusedVariables false
set_option maxRecDepth 100000

theorem Tryz.info16 : (Tryz.prog.info? 130).map (·.size) = some 16 := by kernel_rfl
theorem quad_of {w : World} {g : Nat} {T : TypeId} {q : Q4} {rest : List Value} (h : Row w g T (.int .u32 (q.a : Int) :: .int .u32 (q.b : Int) :: .int .u32 (q.c : Int) :: .int .u32 (q.d : Int) :: rest)) : Quad w g q := ⟨h.cell 0, h.cell 1, h.cell 2, h.cell 3⟩

/-- The number of a place. -/
def Q4.at (q : Q4) (j : Nat) : Nat := if j = 0 then q.a else if j = 1 then q.b else if j = 2 then q.c else q.d
theorem Quad.at {w : World} {g : Nat} {q : Q4} (h : Quad w g q) (j : Nat) (hj : j < 4) : w.cell? ⟨g, j, none⟩ = some (.int .u32 (q.at j : Int)) := by
  match j, hj with
  | 0, _ => exact h.c0
  | 1, _ => exact h.c1
  | 2, _ => exact h.c2
  | 3, _ => exact h.c3
  | n + 4, h => omega
theorem Q4.at_lt {q : Q4} (h : q.ok) (j : Nat) : q.at j < 4294967296 := by
  obtain ⟨h1, h2, h3, h4⟩ := h
  unfold Q4.at
  split
  · exact h1
  split
  · exact h2
  split
  · exact h3
  · exact h4
theorem out_at (q : Q4) (k : Nat) (hk : k < 16) : (outN q).getD k 0 = q.at (k / 4) / 2 ^ (k % 4 * 8) % 256 := by
  match k, hk with
  | 0, _ | 4, _ | 8, _ | 12, _ => simp [outN, lowN, Q4.at]
  | 1, _ | 2, _ | 3, _ | 5, _ | 6, _ | 7, _ | 9, _ | 10, _ | 11, _ | 13, _ | 14, _ | 15, _ => simp [outN, lowN, Q4.at, Nat.div_div_eq_div_mul]
  | n + 16, h => omega
theorem outN_byte (q : Q4) : ∀ x ∈ outN q, x < 256 := by
  intro x hx
  simp only [outN, List.mem_append] at hx
  rcases hx with h | h | h | h <;> exact lowN_byte _ _ x h

def TdR (q : Q4) (g1 : Nat) (w0 : World) (i : Value) (wr : World) : Prop :=
  ∃ k : Nat, k ≤ 16 ∧ i = .int .i64 (k : Int) ∧ Row wr g1 130 (bytesOf (laying (natB (outN q)) k)) ∧ Touch (fun j => j = g1) w0 wr
set_option maxHeartbeats 1000000 in
theorem told_any (g : Nat) (q : Q4) (w : World) (hq : q.ok) (h : Quad w g q) :
    Calls Tryz.prog 137 #[.pointer (some ⟨g, 0, none⟩)] w fun e w' => e = .returned (.agg (bytesOf (natB (outN q))).toArray) ∧ Touch (fun _ => False) w w' := by
  have hOl : (natB (outN q)).length = 16 := by rw [length_natB, length_outN]
  have HQ : Hid (Quad w g q) := h
  have HOk : Hid q.ok := hq
  clear h hq
  go_enter Tryz.func137, Tryz.ntmps137
  go_wp2_with fail
  generalize hw2 : World.alloc (World.alloc w _) _ = w2
  have HR1 : Hid (Row w2 w.heap.size 130 (bytesOf (List.replicate 16 0))) := by
    subst hw2
    exact (row_new w _ _).keep ((Touch.refl _ _).alloc _)
  have HR2 : Hid (Row w2 (w.heap.size + 1) 130 (bytesOf (laying (natB (outN q)) 0))) := by
    subst hw2
    rw [laying_zero, hOl]
    have := row_new (w.alloc (.cells #[.int .u8 0, .int .u8 0, .int .u8 0, .int .u8 0, .int .u8 0, .int .u8 0, .int .u8 0, .int .u8 0, .int .u8 0, .int .u8 0, .int .u8 0, .int .u8 0, .int .u8 0, .int .u8 0, .int .u8 0, .int .u8 0] 130)) 130 #[.int .u8 0, .int .u8 0, .int .u8 0, .int .u8 0, .int .u8 0, .int .u8 0, .int .u8 0, .int .u8 0, .int .u8 0, .int .u8 0, .int .u8 0, .int .u8 0, .int .u8 0, .int .u8 0, .int .u8 0, .int .u8 0]
    simp only [World.size_alloc] at this
    exact this
  have HT2 : Hid (Touch (fun _ => False) w w2) := by
    subst hw2
    exact ((Touch.refl _ _).alloc _).alloc _
  have HS2 : Hid (w2.heap.size = w.heap.size + 2) := by
    subst hw2
    simp [Hid]
  clear hw2
  go_loopw [5] (fun i wr => TdR q (w.heap.size + 1) w2 i wr) (fun i _ => 16 - (intOf i).toNat)
  case atStart => exact ⟨0, by omega, rfl, HR2.out, Touch.refl _ _⟩
  case round =>
    obtain ⟨k, hk, rfl, hr, t⟩ := hrel
    have hfz := hr.frozen k
    by_cases hlt : k < 16
    · have hlt' : (k : Int) < 16 := by omega
      have hgl := lt_of_cell HQ.out.c0
      have hc := (HT2.out.cellN (HQ.out.at (k / 4) (by omega)))
      have hcx := (t.cell (lt_of_cell hc) (by show ¬ g = _; omega)).trans hc
      have hS := Q4.at_lt HOk.out (k / 4)
      have HX : Hid ((natB (outN q)).getD k 0 = ((q.at (k / 4) / 2 ^ (k % 4 * 8) % 256 : Nat) : Int)) := by show _ = _; rw [natB_getD, out_at q k hlt]
      have hcell : wr.cell? ⟨w.heap.size + 1, k, none⟩ = some (.int .u8 0) := by
        rw [hr.cell k]
        simp only [bytesOf, List.getElem?_map]
        rw [laying_get _ k k (by omega), if_pos (by omega), if_neg (by omega)]
        rfl
      have HN : Hid (TdR q (w.heap.size + 1) w2 (.int .i64 ((k : Int) + 1)) (wr.setCell ⟨w.heap.size + 1, k, none⟩ (.int .u8 ((natB (outN q)).getD k 0)))) :=
        ⟨k + 1, by omega, by rw [Int.natCast_add]; rfl, by rw [← laying_step _ k (by omega), bytesOf_set]; exact hr.set k _, Touch.setCell (p := ⟨w.heap.size + 1, k, none⟩) t (Or.inl rfl) _⟩
      rw [HX.out] at HN
      generalize q.at (k / 4) = S at hS hcx HN
      have s1 : ((k : Int) % 4 * 8).toNat = k % 4 * 8 := by omega
      have s2 : min (k % 4 * 8) 32 = k % 4 * 8 := by omega
      have s3 : (0 : Int) ≤ (k : Int) % 4 * 8 := by omega
      have s4 : (S : Int) / 2 ^ (k % 4 * 8) % 256 = ((S / 2 ^ (k % 4 * 8) % 256 : Nat) : Int) := by simp
      generalize S / 2 ^ (k % 4 * 8) % 256 = B at s4 HN
      have s5 : ((k : Int) / 4).toNat = k / 4 := by omega
      have s6 : (k : Int) / 4 < 4 := by omega
      have s7 : (0 : Int) ≤ (k : Int) / 4 := by omega
      clear HX hr t hc HQ HOk HR1 HR2 HT2 hgl hOl
      go_wp2
      go_roundw
      case rel => exact HN.out
      case measure => simp [intOf]; omega
    · obtain rfl : k = 16 := by omega
      rw [← hOl, laying_all] at hr
      have hr1 : Row wr w.heap.size 130 (bytesOf (List.replicate 16 0)) := (t.block _ (by have := HS2.out; omega) (by show ¬ _ = _; omega)).trans HR1.out
      have HRa : Hid (Row wr (w.heap.size + 1) 130 (bytesOf (natB (outN q)))) := hr
      have HRb : Hid (Row wr w.heap.size 130 (bytesOf (List.replicate 16 0))) := hr1
      have HTe : Hid (Touch (fun _ => False) w wr) := HT2.out.trans' t (fun i hi e => by have : i = w.heap.size + 1 := e; omega)
      clear hr hr1 t HR1 HR2 HT2 hfz HS2 HQ HOk
      have hOl' : (bytesOf (natB (outN q))).length = 16 := by rw [length_bytesOf, hOl]
      have hO1 := oneCell_bytesOf (natB (outN q))
      generalize hOO : bytesOf (natB (outN q)) = O at HRa hOl' hO1 ⊢
      have HO : Hid (bytesOf (natB (outN q)) = O) := hOO
      clear hOl hOO
      go_wp2_with (first | refine wpList_load_row rfl 130 (.tmp 3) rfl (w.heap.size + 1) rfl 130 _ (0, 0) _ HRa.out Tryz.underlying130 rfl (by rw [Tryz.info16, List.size_toArray, hOl']) ?_ | refine wpList_store_row rfl 130 (.tmp 2) (.tmp 23) rfl w.heap.size O.toArray rfl rfl 130 _ HRb.out (by rw [Tryz.info16, List.size_toArray, hOl']) (by simp [length_bytesOf, hOl']) (all_oneCell hO1) ?_)
      refine bodyPost_ret (results_cell_row Tryz.results137 _ _ w.heap.size 130 O.toArray (0, 0) _ rfl (HRb.out.setRow O.toArray) Tryz.underlying130 rfl (by rw [Tryz.info16, List.size_toArray, hOl'])) rfl ?_
      exact ⟨by rw [HO.out], HTe.out.setRow (Or.inr (Nat.le_refl _)) _⟩
end Go.Proofs.YtjjgbcjgmjggnaaGreat
