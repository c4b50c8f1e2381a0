/- Pure: one byte of a right state that is changed is told. -/
import Derived.Test.YtfdpmlogieaiaaaStTypes
import Derived.Test.YtfdpmlogieaiaaaStRead3
namespace Go.Proofs.Ytfdpmlogieaiaaa
open Go.RowKit
set_option linter.unusedVariables false
set_option maxRecDepth 100000

theorem list20 {l : List Int} (h : l.length = 20) : ∃ a b c d e f g i j k m n o p q r s t u v, l = [a, b, c, d, e, f, g, i, j, k, m, n, o, p, q, r, s, t, u, v] := by
  match l, h with
  | [a, b, c, d, e, f, g, i, j, k, m, n, o, p, q, r, s, t, u, v], _ => exact ⟨a, b, c, d, e, f, g, i, j, k, m, n, o, p, q, r, s, t, u, v, rfl⟩
theorem wrap32_mod {x : Int} (h0 : 0 ≤ x) (h1 : x < 4294967296) : IntKind.i32.wrap x % 4294967296 = x := by
  simp [IntKind.wrap, IntKind.bits, IntKind.signed]
  omega
theorem headB_rdHead {l : List Int} (hl : l.length = 20) (hb : ∀ z ∈ l, 0 ≤ z ∧ z < 256) : headB (rdHead l) = l := by
  obtain ⟨a, b, c, d, e, f, g, i, j, k, m, n, o, p, q, r, s, t, u, v, rfl⟩ := list20 hl
  simp only [List.mem_cons, List.not_mem_nil, or_false, forall_eq_or_imp, forall_eq] at hb
  obtain ⟨ha, hb, hc, hd, he, hf, hg, hi, hj, hk, hm, hn, ho, hp, hq, hr, hs, ht, hu, hv⟩ := hb
  have e1 : rdHead [a, b, c, d, e, f, g, i, j, k, m, n, o, p, q, r, s, t, u, v] = ⟨numOf [a, b], c, d, numOf [e, f, g, i], numOf [j, k, m, n], IntKind.i32.wrap (numOf [o, p, q, r]), numOf [s, t], numOf [u, v]⟩ := by
    simp [rdHead, numAt, nextAt, numOf1]
  have hw := four_ok ho hp hq hr
  rw [e1]
  unfold headB
  dsimp only
  rw [wrap32_mod hw.1 hw.2, numBytes_two a b ha hb, numBytes_four e f g i he hf hg hi, numBytes_four j k m n hj hk hm hn, numBytes_four o p q r ho hp hq hr, numBytes_two s t hs ht, numBytes_two u v hu hv]
  rfl
theorem rdHead_all {l : List Int} (hb : ∀ z ∈ l, 0 ≤ z ∧ z < 256) : (rdHead l).All := by
  have b1 : ∀ q, 0 ≤ numAt l q 1 ∧ numAt l q 1 < 256 := fun q => by have := numAt_bound hb q 1; omega
  have b2 : ∀ q, 0 ≤ numAt l q 2 ∧ numAt l q 2 < 65536 := fun q => by have := numAt_bound hb q 2; omega
  have b4 : ∀ q, 0 ≤ numAt l q 4 ∧ numAt l q 4 < 4294967296 := fun q => by have := numAt_bound hb q 4; omega
  have b5 : ∀ x : Int, -2147483648 ≤ IntKind.i32.wrap x ∧ IntKind.i32.wrap x ≤ 2147483647 := fun x => by simp [IntKind.wrap, IntKind.bits, IntKind.signed]; omega
  unfold rdHead
  constructor
  · dsimp only; exact b2 _
  · dsimp only; exact b1 _
  · dsimp only; exact b1 _
  · dsimp only; exact b4 _
  · dsimp only; exact b4 _
  · dsimp only; exact b5 _
  · dsimp only; exact b2 _
  · dsimp only; exact b2 _
structure Right (h : HV) (rs : List Int) : Prop where
  len : h.len = 20 + (rs.length : Int)
  sum : h.sum ≠ 0
  whole : whole ((headB h ++ rs).drop 2) = true
  known : knownB h.typ = true
  seq : h.seq ≠ -2147483648
  age : bits BinOp.andNot .u16 h.age 32768 ≤ 3600
  dec : decB h.typ rs ≠ none
theorem right_of {h : HV} {rs : List Int} (e : chkE h rs = 0) : Right h rs := by
  unfold chkE at e
  split at e
  · omega
  · rename_i h1
    split at e
    · omega
    · rename_i h2
      split at e
      · omega
      · rename_i h3
        split at e
        · omega
        · rename_i h4
          split at e
          · omega
          · rename_i h5
            refine ⟨by omega, fun q => h2 (Or.inl q), ?_, by simpa using h3, fun q => h4 (Or.inl q), ?_, h5⟩
            · cases hw : Ytfdpmlogieaiaaa.whole ((headB h ++ rs).drop 2) with
              | true => rfl
              | false => exact absurd (Or.inr hw) h2
            · exact Classical.byContradiction (fun q => h4 (Or.inr q))
theorem right_chk {h : HV} {rs : List Int} (r : Right h rs) : chkE h rs = 0 := by
  unfold chkE
  rw [if_neg (by have := r.len; omega), if_neg (by rintro (q | q); exact r.sum q; rw [r.whole] at q; cases q), if_neg (by rw [r.known]; decide), if_neg (by rintro (q | q); exact r.seq q; exact q r.age), if_neg r.dec]
theorem readE_zero {rs : List Int} (e : readE rs = 0) : 20 ≤ rs.length ∧ 20 ≤ (rdHead (rs.take 20)).len ∧ (rdHead (rs.take 20)).len ≤ (rs.length : Int) := by
  unfold readE at e
  split at e
  · omega
  · split at e
    · omega
    · split at e
      · omega
      · omega
theorem guards_pure {h : HV} {rs : List Int} (hc : chkE h rs = 0) (ok : h.All) (hb : ∀ z ∈ rs, 0 ≤ z ∧ z < 256) {k : Nat} (h2 : 2 ≤ k) (hk : k < 20 + rs.length) {tb : Int} (ht : 0 ≤ tb ∧ tb < 256) (hne : (headB h ++ rs).getD k 0 % 255 ≠ tb % 255)
    (hr : readE ((headB h ++ rs).set k tb) = 0) (hl : (rdHead (((headB h ++ rs).set k tb).take 20)).len = 20 + (rs.length : Int)) :
    chkE (rdHead (((headB h ++ rs).set k tb).take 20)) ((((headB h ++ rs).set k tb).drop 20).take ((rdHead (((headB h ++ rs).set k tb).take 20)).len.toNat - 20)) ≠ 0 := by
  have R := right_of hc
  have hll : (headB h ++ rs).length = 20 + rs.length := by rw [List.length_append, length_headB]
  have hby : ∀ z ∈ headB h ++ rs, 0 ≤ z ∧ z < 256 := fun z hz => by
    rcases List.mem_append.1 hz with h' | h'
    · exact headB_byte ok z h'
    · exact hb z h'
  have W := R.whole
  generalize headB h ++ rs = L at *
  intro e
  have R' := right_of e
  have W' := R'.whole
  have hbs : ∀ z ∈ L.set k tb, 0 ≤ z ∧ z < 256 := fun z hz => by
    rcases List.mem_or_eq_of_mem_set hz with h' | rfl
    · exact hby z h'
    · exact ht
  have hls : (L.set k tb).length = 20 + rs.length := by rw [List.length_set, hll]
  rw [headB_rdHead (by rw [List.length_take, hls]; omega) (fun z hz => hbs z (List.mem_of_mem_take hz)), hl] at W'
  rw [List.take_of_length_le (i := (20 + (rs.length : Int)).toNat - 20) (by rw [List.length_drop, hls]; omega), List.take_append_drop] at W'
  have hd : (L.set k tb).drop 2 = (L.drop 2).set (k - 2) tb := by
    rw [List.drop_set]
    rw [if_neg (by omega)]
  rw [hd, whole_set _ _ _ (by rw [List.length_drop, hll]; omega) W, decide_eq_true_iff] at W'
  apply hne
  rw [← W']
  congr 1
  rw [List.getD_eq_getElem?_getD, List.getD_eq_getElem?_getD, List.getElem?_drop, show 2 + (k - 2) = k by omega]
end Go.Proofs.Ytfdpmlogieaiaaa
