/- The document's 'split'. -/
import Derived.Test.YtmofndckjjbfgaaDoorPreTx
import Derived.Test.YtmofndckjjbfgaaDoorPreWide
namespace Go.Proofs.YtmofndckjjbfgaaDoor
open Go.RowKit
set_option linter.unusedVariables false
set_option maxRecDepth 100000

theorem Tryd.info9w : (Tryd.prog.info? 9).map (fun i => (i.zero, i.size, i.bytes)) = some (some (.string ByteArray.empty), 1, 16) := by kernel_rfl

/-- Texts, as values. -/
def strV (ps : List (List UInt8)) : List Value := ps.map fun p => .string ⟨p.toArray⟩
theorem strV_snoc (ps : List (List UInt8)) (p : List UInt8) : strV (ps ++ [p]) = strV ps ++ [.string ⟨p.toArray⟩] := by simp [strV]
theorem strV_len (ps : List (List UInt8)) : (strV ps).length = ps.length := by simp [strV]

/-- How far the splitting has come. -/
structure SplitS (c : UInt8) (l : List UInt8) (k f : Nat) (done : List (List UInt8)) : Prop where
  count : done.length ≤ k
  on : k ≤ l.length → f ≤ k ∧ done ++ pieces c (l.drop f) = pieces c l ∧ ∀ j, f ≤ j → j < k → l.getD j 0 ≠ c
  at_end : k = l.length + 1 → done = pieces c l

theorem drop_split {l : List UInt8} {f k : Nat} (hf : f ≤ k) (hk : k < l.length) : l.drop f = (l.drop f).take (k - f) ++ l.getD k 0 :: l.drop (k + 1) := by
  have e : l.getD k 0 = l[k] := by simp [List.getD, hk]
  rw [e, ← List.drop_eq_getElem_cons hk]
  conv => lhs; rw [← List.take_append_drop (k - f) (l.drop f)]
  rw [List.drop_drop, show f + (k - f) = k by omega]
theorem not_mem_take {c : UInt8} {l : List UInt8} {f k : Nat} (hk : k ≤ l.length) (h : ∀ j, f ≤ j → j < k → l.getD j 0 ≠ c) : c ∉ (l.drop f).take (k - f) := by
  intro hm
  obtain ⟨i, hi, e⟩ := List.mem_iff_getElem.1 hm
  have hi' : i < k - f := by simp at hi; omega
  have h2 := h (f + i) (by omega) (by omega)
  rw [List.getElem_take, List.getElem_drop] at e
  apply h2
  simp [List.getD, show f + i < l.length by omega, e]

theorem SplitS.skip {c : UInt8} {l : List UInt8} {k f : Nat} {done : List (List UInt8)} (h : SplitS c l k f done) (hk : k < l.length) (hc : l.getD k 0 ≠ c) : SplitS c l (k + 1) f done := by
  obtain ⟨h1, h2, h3⟩ := h.on (by omega)
  refine ⟨by have := h.count; omega, fun _ => ⟨by omega, h2, fun j hj hjk => ?_⟩, fun e => by omega⟩
  rcases Nat.lt_or_ge j k with h' | h'
  · exact h3 j hj h'
  · obtain rfl : j = k := by omega
    exact hc
theorem SplitS.cut {c : UInt8} {l : List UInt8} {k f : Nat} {done : List (List UInt8)} (h : SplitS c l k f done) (hk : k < l.length) (hc : l.getD k 0 = c) : SplitS c l (k + 1) (k + 1) (done ++ [(l.drop f).take (k - f)]) := by
  obtain ⟨h1, h2, h3⟩ := h.on (by omega)
  refine ⟨by have := h.count; simp; omega, fun _ => ⟨Nat.le_refl _, ?_, fun j hj hjk => by omega⟩, fun e => by omega⟩
  rw [drop_split h1 hk, hc, pieces_app (not_mem_take (by omega) h3)] at h2
  simpa using h2
theorem SplitS.last {c : UInt8} {l : List UInt8} {f : Nat} {done : List (List UInt8)} (h : SplitS c l l.length f done) : SplitS c l (l.length + 1) (l.length + 1) (done ++ [(l.drop f).take (l.length - f)]) := by
  obtain ⟨h1, h2, h3⟩ := h.on (Nat.le_refl _)
  refine ⟨by have := h.count; simp; omega, fun e => by omega, fun _ => ?_⟩
  have hn := not_mem_take (Nat.le_refl _) h3
  rw [List.take_of_length_le (by simp)] at hn ⊢
  rw [← h2, pieces_no hn]

def SplitR (w : World) (c : UInt8) (l : List UInt8) (s5 s6 s7 : Value) (wr : World) : Prop := ∃ (k f : Nat) (done : List (List UInt8)), k ≤ l.length + 1 ∧ s7 = .int .i64 (k : Int) ∧ s6 = .int .i64 (f : Int) ∧ f ≤ l.length + 1 ∧ Hid (SplitS c l k f done) ∧ Hid (wr.ownsRow w.heap.size 9 1 s5 done.length (strV done)) ∧ Hid (Gr w wr)
theorem split_less {n k : Nat} (hk : k ≤ n) : n + 1 - (intOf (.int .i64 ((k : Int) + 1))).toNat < n + 1 - (intOf (.int .i64 (k : Int))).toNat := by simp [intOf]; omega

theorem split_gr {w wr w1 : World} {s5 v : Value} {n : Nat} {xs : List Value} (hG : Gr w wr) (hO : wr.ownsRow w.heap.size 9 1 s5 n xs) (hg : (wr.alloc (.cells #[v] 9)).grownBy w1 s5.ownBlock) : Gr w w1 :=
  Below.grown (hG.alloc _) hg (by have := hG.size; simp; omega) (fun k hk => (hO.lt k hk).1)

theorem ne_u8 {x c : UInt8} (h : ¬ x = c) : (((x.toNat : Nat) : Int) == ((c.toNat : Nat) : Int)) = false := by
  have : x.toNat ≠ c.toNat := fun e => h (UInt8.toNat_inj.1 e)
  simp only [beq_eq_false_iff_ne]
  omega

set_option maxHeartbeats 1000000 in
theorem split_any (l : List UInt8) (c : UInt8) (w : World) (hl : l.length ≤ 2147483647) :
    Calls Tryd.prog 45 #[.string ⟨l.toArray⟩, .int .u8 (c.toNat : Int)] w fun e w' => (∃ v, e = .returned v ∧ w'.ownsRow w.heap.size 9 1 v (pieces c l).length (strV (pieces c l))) ∧ Gr w w' := by
  obtain ⟨i0, hi, hz0, hz1, hz2⟩ := info_parts Tryd.info9w
  have HI : Hid (Tryd.prog.info? 9 = some i0 ∧ i0.zero = some (.string ByteArray.empty) ∧ i0.size = 1 ∧ i0.bytes = 16) := ⟨hi, hz0, hz1, hz2⟩
  have HL : Hid _ := hl
  clear hl hi hz0 hz1 hz2
  go_enter Tryd.func45, Tryd.ntmps45
  go_wp2_with fail
  go_loopw [5, 6, 7] (fun s5 s6 s7 wr => SplitR w c l s5 s6 s7 wr) (fun _ _ s7 _ => l.length + 1 - (intOf s7).toNat)
  case atStart => exact ⟨0, 0, [], Nat.zero_le _, rfl, rfl, Nat.zero_le _, ⟨Nat.zero_le _, fun _ => ⟨Nat.zero_le _, rfl, fun j _ hj => by omega⟩, fun e => by omega⟩, World.ownsRow_nil _ _ _ _, Gr.refl _⟩
  case round =>
    obtain ⟨k, f, done, hk, rfl, rfl, hf, HS, HO, HG⟩ := hrel
    have hwk := wrap_succ' (k := k) (by have := HL.out; omega)
    by_cases hkl : k < l.length
    · have hki : (k : Int) ≤ (l.length : Int) := by omega
      have hk0 : (0 : Int) ≤ (k : Int) := by omega
      have hk1 : (k : Int) < (l.length : Int) := by omega
      have hne : ((k : Int) == (l.length : Int)) = false := by simp; omega
      have hks : k < (ByteArray.mk l.toArray).size := by simpa [ByteArray.size] using hkl
      have hsg := str_get l k hks
      by_cases hc : l.getD k 0 = c
      · have hcn : (((ByteArray.mk l.toArray)[k]'hks).toNat : Int) = (c.toNat : Int) := by rw [hsg, hc]
        have HN : Hid _ := HS.out.cut hkl hc
        obtain ⟨hfk, _, _⟩ := HS.out.on (by omega)
        have hf0 : (0 : Int) ≤ (f : Int) := by omega
        have hf1 : (f : Int) ≤ (k : Int) := by omega
        clear hsg hc
        go_wp2_with (at_builtin; refine wpList_append_own_at _ rfl (.tmp 25) (.tmp 30) 61 rfl w.heap.size 9 i0 (.string ByteArray.empty) 1 16 Tryd.underlying61 HI.out.1 HI.out.2.1 HI.out.2.2.1 HI.out.2.2.2 rfl (by decide) _ done.length (strV done) rfl (HO.out.alloc _) ⟨wr.heap.size, 0, none⟩ 1 1 [.string ((ByteArray.mk l.toArray).extract f k)] rfl rfl ?c1 ?c2 ?c3 ?c4 ?c5 ?_)
        case c1 => exact cell_one_new _ _ _
        case c2 => intro u hu; obtain rfl := List.mem_singleton.mp hu; rfl
        case c3 => unfold maxLen; have := HS.out.count; have := HL.out; omega
        case c4 => have := HS.out.count; have := HL.out; omega
        case c5 => have := HG.out.size; simp; omega
        intro v' w1 hown hgrow _ hat
        have HG1 : Hid (Gr w w1) := split_gr HG.out HO.out hgrow
        have HO1 : Hid (w1.ownsRow w.heap.size 9 1 v' (done ++ [(l.drop f).take (k - f)]).length (strV (done ++ [(l.drop f).take (k - f)]))) := by
          rw [Lib.extract_eq] at hown
          rw [strV_snoc, List.length_append]
          exact hown
        clear hown hgrow hat
        go_wp2_with fail
        go_roundw
        case rel => rw [hwk]; exact ⟨k + 1, k + 1, _, by omega, by rw [Int.natCast_add]; rfl, by rw [Int.natCast_add]; rfl, by omega, HN.out, HO1.out, HG1.out⟩
        case measure => rw [hwk]; exact split_less (by omega)
      · have hcn : ((((ByteArray.mk l.toArray)[k]'hks).toNat : Int) == (c.toNat : Int)) = false := by
          exact ne_u8 (by rw [hsg]; exact hc)
        have HN : Hid _ := HS.out.skip hkl hc
        clear hsg hc
        go_wp2_with fail
        go_roundw
        case rel => rw [hwk]; exact ⟨k + 1, f, done, by omega, by rw [Int.natCast_add]; rfl, rfl, hf, HN.out, HO.out, HG.out⟩
        case measure => rw [hwk]; exact split_less (by omega)
    · by_cases hke : k = l.length
      · subst hke
        have hki : (l.length : Int) ≤ (l.length : Int) := by omega
        have HN : Hid _ := HS.out.last
        obtain ⟨hfk, _, _⟩ := HS.out.on (by omega)
        have hf0 : (0 : Int) ≤ (f : Int) := by omega
        have hf1 : (f : Int) ≤ (l.length : Int) := by omega
        go_wp2_with (at_builtin; refine wpList_append_own_at _ rfl (.tmp 25) (.tmp 30) 61 rfl w.heap.size 9 i0 (.string ByteArray.empty) 1 16 Tryd.underlying61 HI.out.1 HI.out.2.1 HI.out.2.2.1 HI.out.2.2.2 rfl (by decide) _ done.length (strV done) rfl (HO.out.alloc _) ⟨wr.heap.size, 0, none⟩ 1 1 [.string ((ByteArray.mk l.toArray).extract f l.length)] rfl rfl ?c1 ?c2 ?c3 ?c4 ?c5 ?_)
        case c1 => exact cell_one_new _ _ _
        case c2 => intro u hu; obtain rfl := List.mem_singleton.mp hu; rfl
        case c3 => unfold maxLen; have := HS.out.count; have := HL.out; omega
        case c4 => have := HS.out.count; have := HL.out; omega
        case c5 => have := HG.out.size; simp; omega
        intro v' w1 hown hgrow _ hat
        have HG1 : Hid (Gr w w1) := split_gr HG.out HO.out hgrow
        have HO1 : Hid (w1.ownsRow w.heap.size 9 1 v' (done ++ [(l.drop f).take (l.length - f)]).length (strV (done ++ [(l.drop f).take (l.length - f)]))) := by
          rw [Lib.extract_eq] at hown
          rw [strV_snoc, List.length_append]
          exact hown
        clear hown hgrow hat
        go_wp2_with fail
        go_roundw
        case rel => rw [hwk]; exact ⟨l.length + 1, l.length + 1, _, by omega, by rw [Int.natCast_add]; rfl, by rw [Int.natCast_add]; rfl, by omega, HN.out, HO1.out, HG1.out⟩
        case measure => rw [hwk]; exact split_less (by omega)
      · obtain rfl : k = l.length + 1 := by omega
        have hki : ¬ ((l.length + 1 : Nat) : Int) ≤ (l.length : Int) := by omega
        have he := HS.out.at_end rfl
        have HO1 := HO.out
        rw [he] at HO1
        have HO2 : Hid _ := HO1
        clear he HO1 hwk
        go_wp2_with fail
        go_ret
        exact ⟨⟨_, rfl, HO2.out⟩, HG.out⟩
end Go.Proofs.YtmofndckjjbfgaaDoor
