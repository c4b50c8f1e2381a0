/- prefix.numbers: a row of numbers in tens. -/
import Derived.Test.YtmofndckjjbfgaaDoorPreCut
import Derived.Deep.LoopGhost
import Derived.Lib.ConvBytes
namespace Go.Proofs.YtmofndckjjbfgaaDoor
open Go.RowKit Go.Sort Go.Lib
set_option linter.unusedVariables false
set_option maxRecDepth 100000

/-- What 'numbers' answers. -/
def numV : Option Nat → Value
  | some v => .tuple #[.int .u32 (v : Int), .bool true]
  | none => .tuple #[.int .u32 0, .bool false]

theorem take_at (l : List UInt8) (b : Nat) (w0 w : World) (hl : l.length ≤ 4611686018427387904) (hb : w.cell? ⟨b, 0, none⟩ = some (.string ⟨l.toArray⟩)) (hf : w.frozen? ⟨b, 0, none⟩ = false) (hg : Gr w0 w) (hw : w0.heap.size ≤ b) :
    Calls Tryd.prog 52 #[.pointer (some ⟨b, 0, none⟩)] w fun e w' => e = .returned (.tuple #[.string ⟨(cutL 46 l).1.toArray⟩, .bool (cutL 46 l).2.2]) ∧ w'.cell? ⟨b, 0, none⟩ = some (.string ⟨(cutL 46 l).2.1.toArray⟩) ∧ w'.frozen? ⟨b, 0, none⟩ = false ∧ Gr w0 w' := by
  have hlt : b < w.heap.size := by
    rcases Nat.lt_or_ge b w.heap.size with h' | h'
    · exact h'
    · simp [World.cell?, Array.getElem?_eq_none h'] at hb
  refine (take_any l b w hl hb hf).mono ?_
  rintro e w' ⟨rfl, w1, hg1, rfl⟩
  have hc1 := (hg1.cells.1 b 0 hlt).trans hb
  have hf1 := (hg1.cells.2 b 0 hlt).trans hf
  exact ⟨rfl, World.cell?_setCell_same _ _ _ hc1, by simpa using hf1, (hg.trans hg1).setCell hw _⟩

theorem cutL_len (c : UInt8) : ∀ l : List UInt8, (cutL c l).1.length ≤ l.length ∧ (cutL c l).2.1.length ≤ l.length
  | [] => by simp [cutL]
  | x :: l => by
    have := cutL_len c l
    unfold cutL
    split <;> simp <;> omega

/-- The next number of a row. -/
theorem rdN_succ (top k : Nat) (l : List UInt8) (acc : Nat) : rdN top (k + 1) l acc = if (cutL 46 l).2.2 = decide (k = 0) then none
    else if isNum (cutL 46 l).1 top = true then (if k = 0 then some (acc * 256 + dval (cutL 46 l).1) else rdN top k (cutL 46 l).2.1 (acc * 256 + dval (cutL 46 l).1))
    else none := rfl

/-- A string's bytes, laid into a new row. -/
theorem conv_at (d : List UInt8) (w : World) : ∃ (w2 : World) (cap : Nat), (convert 9 73 (.string ⟨d.toArray⟩)).run Tryd.prog w = .ok (.slice (some ⟨w.heap.size, 0, none⟩) d.length cap) w2 ∧ (∀ j : Nat, j < d.length → w2.cell? ⟨w.heap.size, j, none⟩ = some (.int .u8 ((d.getD j 0).toNat : Int))) ∧ Gr w w2 := by
  refine ⟨Lib.bytesWorld w 5 ⟨d.toArray⟩, grownCap w d.length 0 5, ?_, fun j hj => ?_, ?_⟩
  · have := Lib.run_convert_string_bytes (P := Tryd.prog) w 9 73 5 ⟨d.toArray⟩ Tryd.underlying9 Tryd.underlying73 Tryd.underlying5
    rw [ByteArray.size_mk', List.size_toArray] at this
    exact this
  · have := Lib.bytesWorld_cell w 5 ⟨d.toArray⟩ j (by rw [ByteArray.size_mk', List.size_toArray]; exact hj)
    simpa using this
  · exact ⟨rfl, rfl, rfl, by rw [Lib.bytesWorld_size]; omega, fun k hk => Lib.bytesWorld_at_old w 5 _ k hk⟩

theorem head_of {d : List UInt8} {h : 0 < (ByteArray.mk d.toArray).size} : ∃ t, d = ((ByteArray.mk d.toArray)[0]'h) :: t := by
  rcases d with _ | ⟨c, t⟩
  · exact absurd h (by decide)
  · exact ⟨t, rfl⟩
theorem hn_a {d : List UInt8} {h : 0 < (ByteArray.mk d.toArray).size} (e : ¬ ((((ByteArray.mk d.toArray)[0]'h).toNat : Nat) : Int) = 48) : d.head? = some 48 → d = [48] := by
  intro e'
  obtain ⟨t, ht⟩ := head_of (h := h)
  rw [ht] at e'
  have e2 : (ByteArray.mk d.toArray)[0]'h = 48 := by simpa using e'
  rw [e2] at e
  exact absurd rfl e
theorem hn_b {d : List UInt8} (e : (!d == [48]) = false) : d.head? = some 48 → d = [48] := by
  intro _; simpa using e
theorem no_num {d : List UInt8} {top : Nat} {h : 0 < (ByteArray.mk d.toArray).size} (e : ((((ByteArray.mk d.toArray)[0]'h).toNat : Nat) : Int) = 48) (e2 : (!d == [48]) = true) : isNum d top = false := by
  obtain ⟨t, ht⟩ := head_of (h := h)
  have hc : (ByteArray.mk d.toArray)[0]'h = 48 := UInt8.toNat_inj.1 (show _ = 48 by omega)
  rw [hc] at ht
  have : ¬ d = [48] := by simpa using e2
  simp only [isNum, decide_eq_false_iff_not]
  rintro ⟨_, h2, _⟩
  exact this (h2 (by rw [ht]; rfl))
theorem bool_ne {m b : Bool} (h : ¬ m = b) : m = !b := by cases m <;> cases b <;> simp_all
theorem no_empty {top : Nat} : isNum [] top = false := by simp [isNum]
theorem no_digit {d : List UInt8} {top k : Nat} (hk : k < d.length) (h : ¬ (48 ≤ (d.getD k 0).toNat ∧ (d.getD k 0).toNat ≤ 57)) : isNum d top = false := by
  simp only [isNum, decide_eq_false_iff_not]
  rintro ⟨_, _, h3, _⟩
  have e : d.getD k 0 = d[k] := by simp [List.getD, hk]
  have := h3 (d.getD k 0) (by rw [e]; exact List.getElem_mem hk)
  simp [digB] at this
  exact h this
theorem dval_next {d : List UInt8} {k : Nat} (hk : k < d.length) : dval (d.take (k + 1)) = 10 * dval (d.take k) + ((d.getD k 0).toNat - 48) := by
  have e : d.getD k 0 = d[k] := by simp [List.getD, hk]
  rw [List.take_succ_eq_append_getElem hk, dval_snoc, e]
theorem no_more {d : List UInt8} {top k : Nat} (hk : k < d.length) (h : top < 10 * dval (d.take k) + ((d.getD k 0).toNat - 48)) : isNum d top = false := by
  simp only [isNum, decide_eq_false_iff_not]
  rintro ⟨_, _, _, h4⟩
  have := dval_take_le d (k + 1)
  rw [dval_next hk] at this
  omega
theorem dig_next {d : List UInt8} {k : Nat} (hk : k < d.length) (h : ∀ c ∈ d.take k, digB c = true) (h2 : 48 ≤ (d.getD k 0).toNat ∧ (d.getD k 0).toNat ≤ 57) : ∀ c ∈ d.take (k + 1), digB c = true := by
  have e : d.getD k 0 = d[k] := by simp [List.getD, hk]
  rw [List.take_succ_eq_append_getElem hk]
  intro c hc
  rcases List.mem_append.1 hc with h' | h'
  · exact h c h'
  · have : c = d[k] := by simpa using h'
    rw [this, ← e]
    simp [digB]; exact h2
theorem yes_num {d : List UInt8} {top : Nat} (h1 : d ≠ []) (h2 : d.head? = some 48 → d = [48]) (h3 : ∀ c ∈ d.take d.length, digB c = true) (h4 : dval (d.take d.length) ≤ top) : isNum d top = true ∧ dval (d.take d.length) = dval d := by
  rw [List.take_length] at *
  exact ⟨by simp only [isNum, decide_eq_true_eq]; exact ⟨h1, h2, h3, h4⟩, rfl⟩
theorem or_join (acc v : Nat) (ha : acc < 16777216) (hv : v < 256) : bits .or .u32 ((acc : Int) * 256 % 4294967296) (v : Int) = ((acc * 256 + v : Nat) : Int) := by
  rw [show (acc : Int) * 256 % 4294967296 = (acc : Int) * 256 by omega]
  have := u32_or_nat (acc * 256) v (by omega) (by omega)
  rw [nat_join 8 (acc * 256) v (by omega) (by omega)] at this
  rw [← this]
  rfl
theorem acc_lt {acc i : Nat} (h : acc < 256 ^ i) (hi : i ≤ 3) : acc < 16777216 := by
  have : 256 ^ i ≤ 256 ^ 3 := Nat.pow_le_pow_right (by omega) hi
  omega
theorem acc_next {acc i v : Nat} (h : acc < 256 ^ i) (hv : v < 256) : acc * 256 + v < 256 ^ (i + 1) := by
  rw [Nat.pow_succ]; omega
theorem getD_lt (d : List UInt8) (k : Nat) : (d.getD k 0).toNat < 256 := UInt8.toNat_lt _
theorem num_cast {a b : Int} (h : a = b) : Value.int .u32 a = .int .u32 b := by rw [h]
theorem keep_cell {w1 w2 : World} {b : Nat} {v : Value} (hg : Gr w1 w2) (hc : w1.cell? ⟨b, 0, none⟩ = some v) (hf : w1.frozen? ⟨b, 0, none⟩ = false) : w2.cell? ⟨b, 0, none⟩ = some v ∧ w2.frozen? ⟨b, 0, none⟩ = false := by
  have hlt : b < w1.heap.size := by
    rcases Nat.lt_or_ge b w1.heap.size with h' | h'
    · exact h'
    · simp [World.cell?, Array.getElem?_eq_none h'] at hc
  exact ⟨(hg.cells.1 b 0 hlt).trans hc, (hg.cells.2 b 0 hlt).trans hf⟩
theorem wrap_succ {k : Nat} (h : k < 2147483648) : wrap64 ((k : Int) + 1) = (k : Int) + 1 := by unfold wrap64; omega
theorem ret_num {r : Option Nat} {v : Value} (h : numV r = v) : Ending.returned v = .returned (numV r) := by rw [h]

/-- The row so far: g numbers are to come. -/
def RowR (l : List UInt8) (count top : Nat) (w : World) (g : Nat) (s9 s19 : Value) (wx : World) : Prop := ∃ (i acc : Nat) (r : List UInt8), i + g = count ∧ 1 ≤ g ∧ s9 = .int .u32 (acc : Int) ∧ s19 = .int .i64 (i : Int) ∧ acc < 256 ^ i ∧ r.length ≤ l.length ∧ Hid (rdN top g r acc = rdN top count l 0) ∧ wx.cell? ⟨w.heap.size, 0, none⟩ = some (.string ⟨r.toArray⟩) ∧ wx.frozen? ⟨w.heap.size, 0, none⟩ = false ∧ Hid (Gr w wx)
theorem row_step {l rest : List UInt8} {count top : Nat} {w w2 : World} {g i acc v : Nat} (hig : i + (g + 1) = count) (hg : ¬ g = 0) (ha : acc < 256 ^ i) (hv : v < 256) (hr : rest.length ≤ l.length)
    (hc : w2.cell? ⟨w.heap.size, 0, none⟩ = some (.string ⟨rest.toArray⟩) ∧ w2.frozen? ⟨w.heap.size, 0, none⟩ = false) (hG : Gr w w2)
    (hF : rdN top count l 0 = if g = 0 then some (acc * 256 + v) else rdN top g rest (acc * 256 + v)) (hJ : bits .or .u32 ((acc : Int) * 256 % 4294967296) (v : Int) = ((acc * 256 + v : Nat) : Int)) :
    RowR l count top w g (.int .u32 (bits .or .u32 ((acc : Int) * 256 % 4294967296) (v : Int))) (.int .i64 ((i : Int) + 1)) w2 := by
  rw [if_neg hg] at hF
  exact ⟨i + 1, acc * 256 + v, rest, by omega, by omega, by rw [hJ], by rw [Int.natCast_add]; rfl, acc_next ha hv, hr, hF.symm, hc.1, hc.2, hG⟩

/-- The digits so far. -/
def DigR (d : List UInt8) (top : Nat) (n j : Value) : Prop := ∃ k v : Nat, k ≤ d.length ∧ j = .int .i64 (k : Int) ∧ n = .int .u32 (v : Int) ∧ v ≤ top ∧ Hid (v = dval (d.take k)) ∧ Hid (∀ c ∈ d.take k, digB c = true)

theorem dig_step {d : List UInt8} {top k v c : Nat} (hk : k < d.length) (h1 : 48 ≤ c) (hov : ¬ top < 10 * v + (c - 48)) (hv : dval (d.take (k + 1)) = 10 * v + (c - 48)) (hd : ∀ c ∈ d.take (k + 1), digB c = true) :
    DigR d top (.int .u32 ((v : Int) * 10 + ((c : Int) - 48))) (.int .i64 ((k : Int) + 1)) :=
  ⟨k + 1, 10 * v + (c - 48), hk, by rw [Int.natCast_add]; rfl, num_cast (by omega), by omega, hv.symm, hd⟩
theorem dig_less {d : List UInt8} {k : Nat} (hk : k < d.length) : d.length - (RowKit.intOf (.int .i64 ((k : Int) + 1))).toNat < d.length - (RowKit.intOf (.int .i64 (k : Int))).toNat := by
  simp [RowKit.intOf]; omega

set_option maxHeartbeats 2000000 in
theorem numbers_any (l : List UInt8) (count top : Nat) (w : World) (hl : l.length ≤ 2147483647) (hc1 : 1 ≤ count) (hc4 : count ≤ 4) (htop : top ≤ 255) :
    Calls Tryd.prog 44 #[.string ⟨l.toArray⟩, .int .i64 (count : Int), .int .u32 (top : Int)] w fun e w' => e = .returned (numV (rdN top count l 0)) ∧ Gr w w' := by
  go_enter Tryd.func44, Tryd.ntmps44
  go_wp2_with fail
  go_step3
  go_wp2_with fail
  go_step3
  go_wp2_with fail
  go_loopg [9, 19] count (fun g s9 s19 wx => RowR l count top w g s9 s19 wx)
  case atStart => exact ⟨0, 0, l, by omega, hc1, rfl, rfl, by simp, Nat.le_refl _, rfl, by simp [go_sem], by simp [go_sem], Gr.one _ _⟩
  case round =>
    obtain ⟨i, acc, r, hig, hg1, rfl, rfl, hacc, hrl, HR, hcell, hfro, HG⟩ := hrel
    have hlt : (i : Int) < (count : Int) := by omega
    obtain ⟨g, rfl⟩ : ∃ g, gk = g + 1 := ⟨gk - 1, by omega⟩
    have HS := rdN_succ top g r acc
    rw [HR.out] at HS
    obtain ⟨hd1, hd2⟩ := cutL_len 46 r
    have htake := take_at r w.heap.size w wr (by omega) hcell hfro HG.out (Nat.le_refl _)
    generalize hD : (cutL 46 r).1 = d at HS htake hd1
    generalize hM : (cutL 46 r).2.2 = m at HS htake
    generalize hR : (cutL 46 r).2.1 = rest at HS htake hd2
    have HT : Hid (Calls Tryd.prog 52 #[.pointer (some ⟨w.heap.size, 0, none⟩)] wr fun e w' => e = .returned (.tuple #[.string ⟨d.toArray⟩, .bool m]) ∧ w'.cell? ⟨w.heap.size, 0, none⟩ = some (.string ⟨rest.toArray⟩) ∧ w'.frozen? ⟨w.heap.size, 0, none⟩ = false ∧ Gr w w') := htake
    have hacc2 : acc < 16777216 := acc_lt hacc (by omega)
    have ha0 : (0 : Int) ≤ (acc : Int) := by omega
    have ha1 : (acc : Int) < 16777216 := by omega
    have HA : Hid (acc < 256 ^ i) := hacc
    clear HR HG hcell hfro htake hD hM hR hacc hacc2
    by_cases hb : m = decide (g = 0)
    · have HN : Hid (rdN top count l 0 = none) := by rw [if_pos hb] at HS; exact HS
      clear HS HA
      by_cases hz : g = 0
      · have e1 : (i : Int) = (count : Int) - 1 := by omega
        have hlast : ((i : Int) == (count : Int) - 1) = true := by simpa using e1
        obtain rfl : m = true := by rw [hb]; simpa using hz
        clear e1 hb
        go_wp2_with fail
        refine Calls.mono HT.out ?_
        rintro e w1 ⟨rfl, hcell, hfro, hg1⟩
        have HG : Hid (Gr w w1) := hg1
        clear hg1 ha0 ha1 hl hz HT
        go_wp2_with fail
        rw [Exit.noGoto_ret]
        go_ret2
        exact ⟨ret_num (by rw [HN.out]; rfl), HG.out⟩
      · have hlast : ((i : Int) == (count : Int) - 1) = false := by
          have e1 : ¬ (i : Int) = (count : Int) - 1 := by omega
          simpa using e1
        obtain rfl : m = false := by rw [hb]; simpa using hz
        clear hb
        go_wp2_with fail
        refine Calls.mono HT.out ?_
        rintro e w1 ⟨rfl, hcell, hfro, hg1⟩
        have HG : Hid (Gr w w1) := hg1
        clear hg1 ha0 ha1 hl hz HT
        go_wp2_with fail
        rw [Exit.noGoto_ret]
        go_ret2
        exact ⟨ret_num (by rw [HN.out]; rfl), HG.out⟩
    · have hb' : m = !decide (g = 0) := bool_ne hb
      have HSS : Hid (rdN top count l 0 = if isNum d top = true then (if g = 0 then some (acc * 256 + dval d) else rdN top g rest (acc * 256 + dval d)) else none) := by rw [if_neg hb] at HS; exact HS
      clear HS hb
      by_cases hne : d = []
      · have HN : Hid (rdN top count l 0 = none) := by
          have := HSS.out
          rw [hne, no_empty] at this
          exact this
        clear HSS HA
        subst hne
        by_cases hz : g = 0
        · have e1 : (i : Int) = (count : Int) - 1 := by omega
          have hlast : ((i : Int) == (count : Int) - 1) = true := by simpa using e1
          obtain rfl : m = false := by rw [hb']; simpa using hz
          clear e1 hb'
          go_wp2_with fail
          refine Calls.mono HT.out ?_
          rintro e w1 ⟨rfl, hcell, hfro, hg1⟩
          have HG : Hid (Gr w w1) := hg1
          clear hg1 ha0 ha1 hl hz HT
          go_wp2_with fail
          rw [Exit.noGoto_ret]
          go_ret2
          exact ⟨ret_num (by rw [HN.out]; rfl), HG.out⟩
        · have hlast : ((i : Int) == (count : Int) - 1) = false := by
            have e1 : ¬ (i : Int) = (count : Int) - 1 := by omega
            simpa using e1
          obtain rfl : m = true := by rw [hb']; simpa using hz
          clear hb'
          go_wp2_with fail
          refine Calls.mono HT.out ?_
          rintro e w1 ⟨rfl, hcell, hfro, hg1⟩
          have HG : Hid (Gr w w1) := hg1
          clear hg1 ha0 ha1 hl hz HT
          go_wp2_with fail
          rw [Exit.noGoto_ret]
          go_ret2
          exact ⟨ret_num (by rw [HN.out]; rfl), HG.out⟩
      · have hpos : 0 < d.length := List.length_pos_iff.2 hne
        have hemp : d.isEmpty = false := by simpa using hne
        by_cases hz : g = 0
        · have e1 : (i : Int) = (count : Int) - 1 := by omega
          have hlast : ((i : Int) == (count : Int) - 1) = true := by simpa using e1
          obtain rfl : m = false := by rw [hb']; simpa using hz
          clear e1 hb'
          go_wp2_with fail
          refine Calls.mono HT.out ?_
          rintro e w1 ⟨rfl, hcell, hfro, hg1⟩
          obtain ⟨w2, cap, hcv, hbc, hg2⟩ := conv_at d w1
          have HG1 : Hid (Gr w w1) := hg1
          have HG : Hid (Gr w w2) := hg1.trans hg2
          have HB : Hid (∀ j : Nat, j < d.length → w2.cell? ⟨w1.heap.size, j, none⟩ = some (.int .u8 ((d.getD j 0).toNat : Int))) := hbc
          have HC : Hid (w2.cell? ⟨w.heap.size, 0, none⟩ = some (.string ⟨rest.toArray⟩) ∧ w2.frozen? ⟨w.heap.size, 0, none⟩ = false) := keep_cell hg2 hcell hfro
          have HZ : Hid (g = 0) := hz
          have HA2 : Hid ((0 : Int) ≤ (acc : Int) ∧ (acc : Int) < 16777216) := ⟨ha0, ha1⟩
          have HL : Hid (d.length ≤ 2147483647) := by show _ ≤ _; omega
          clear hg1 hg2 hbc hcell hfro HT hl hz ha0 ha1
          go_wp2_with fail
          · have HN : Hid (rdN top count l 0 = none) := by
              have := HSS.out
              rw [no_num (by assumption) (by assumption)] at this
              exact this
            rw [Exit.noGoto_ret]
            go_ret2
            exact ⟨ret_num (by rw [HN.out]; rfl), HG1.out⟩
          all_goals
            have HH : Hid (d.head? = some 48 → d = [48]) := by first | exact hn_a (by assumption) | exact hn_b (by assumption)
            clear hcv
            go_loop [14, 50] (fun n j => DigR d top n j) (fun _ j => d.length - (RowKit.intOf j).toNat)
            case atStart => exact ⟨0, 0, Nat.zero_le _, rfl, rfl, Nat.zero_le _, rfl, by intro c hc; simp at hc⟩
            case round =>
              obtain ⟨k, v, hk, rfl, rfl, hv, HV, HDg⟩ := hrel
              by_cases hkl : k < d.length
              · have hcx := HB.out k hkl
                have hc256 := getD_lt d k
                have HKD := no_digit (top := top) hkl
                have HKM := no_more (top := top) hkl
                have HKV := dval_next hkl
                have HKG := dig_next hkl HDg.out
                rw [← HV.out] at HKM HKV
                revert hcx hc256 HKD HKM HKV HKG
                generalize (d.getD k 0).toNat = c
                intro hcx hc256 HKD HKM HKV HKG
                have hki : (k : Int) < (d.length : Int) := by omega
                have hwk : wrap64 ((k : Int) + 1) = (k : Int) + 1 := wrap_succ (by have := HL.out; omega)
                by_cases hdg : 48 ≤ c ∧ c ≤ 57
                · obtain ⟨hdg1, hdg2⟩ := hdg
                  have hq1 : (48 : Int) ≤ (c : Int) := by omega
                  have hq2 : (c : Int) ≤ 57 := by omega
                  have hv0 : (0 : Int) ≤ (v : Int) := by omega
                  have hv1 : (v : Int) ≤ 255 := by omega
                  by_cases hov : top < 10 * v + (c - 48)
                  · have HN : Hid (rdN top count l 0 = none) := by
                      have := HSS.out
                      rw [HKM hov] at this
                      exact this
                    have hov' : (top : Int) < (v : Int) * 10 + ((c : Int) - 48) := by omega
                    clear HKD HKM HKV HKG HH HSS hov
                    go_wp2_with fail
                    try rw [Exit.noGoto_ret]
                    go_ret2
                    exact ⟨ret_num (by rw [HN.out]; rfl), HG.out⟩
                  · have hov' : ¬ (top : Int) < (v : Int) * 10 + ((c : Int) - 48) := by omega
                    have HKV' : Hid _ := HKV
                    have HKG' : Hid _ := HKG
                    clear HKD HKM HKV HKG
                    go_wp2_with fail
                    have hst := dig_step (top := top) hkl hdg1 hov HKV'.out (HKG'.out ⟨hdg1, hdg2⟩)
                    have hle := dig_less hkl
                    first
                      | exact ⟨⟨_, _, _, hst, rfl, rfl, rfl⟩, hle⟩
                      | exact ⟨hst, hle⟩
                      | (rw [hwk]; exact ⟨hst, hle⟩)
                · have HN : Hid (rdN top count l 0 = none) := by
                    have := HSS.out
                    rw [HKD hdg] at this
                    exact this
                  have hq : (c : Int) < 48 ∨ (57 : Int) < (c : Int) := by omega
                  clear HKD HKM HKV HKG HH HSS hdg
                  rcases hq with hq | hq
                  all_goals
                    go_wp2_with fail
                    try rw [Exit.noGoto_ret]
                    go_ret2
                    exact ⟨ret_num (by rw [HN.out]; rfl), HG.out⟩
              · obtain rfl : k = d.length := by omega
                have hki : ¬ ((d.length : Int) < (d.length : Int)) := by omega
                obtain ⟨hnum, hval⟩ := yes_num (top := top) hne HH.out HDg.out (by rw [← HV.out]; exact hv)
                have HJ : Hid (bits .or .u32 ((acc : Int) * 256 % 4294967296) (v : Int) = ((acc * 256 + v : Nat) : Int)) := or_join acc v (by have := HA2.out; omega) (by omega)
                have HF : Hid (rdN top count l 0 = if g = 0 then some (acc * 256 + v) else rdN top g rest (acc * 256 + v)) := by
                  have := HSS.out
                  rw [hnum, if_pos rfl, ← hval, ← HV.out] at this
                  exact this
                have hwi : wrap64 ((i : Int) + 1) = (i : Int) + 1 := wrap_succ (by omega)
                clear hnum hval HSS
                go_wp2_with fail
                go_ret2
                exact ⟨ret_num (by rw [HF.out, if_pos HZ.out, HJ.out]; rfl), HG.out⟩
        · have hlast : ((i : Int) == (count : Int) - 1) = false := by
            have e1 : ¬ (i : Int) = (count : Int) - 1 := by omega
            simpa using e1
          obtain rfl : m = true := by rw [hb']; simpa using hz
          clear hb'
          go_wp2_with fail
          refine Calls.mono HT.out ?_
          rintro e w1 ⟨rfl, hcell, hfro, hg1⟩
          obtain ⟨w2, cap, hcv, hbc, hg2⟩ := conv_at d w1
          have HG1 : Hid (Gr w w1) := hg1
          have HG : Hid (Gr w w2) := hg1.trans hg2
          have HB : Hid (∀ j : Nat, j < d.length → w2.cell? ⟨w1.heap.size, j, none⟩ = some (.int .u8 ((d.getD j 0).toNat : Int))) := hbc
          have HC : Hid (w2.cell? ⟨w.heap.size, 0, none⟩ = some (.string ⟨rest.toArray⟩) ∧ w2.frozen? ⟨w.heap.size, 0, none⟩ = false) := keep_cell hg2 hcell hfro
          have HZ : Hid (¬ g = 0) := hz
          have HA2 : Hid ((0 : Int) ≤ (acc : Int) ∧ (acc : Int) < 16777216) := ⟨ha0, ha1⟩
          have HL : Hid (d.length ≤ 2147483647) := by show _ ≤ _; omega
          clear hg1 hg2 hbc hcell hfro HT hl hz ha0 ha1
          go_wp2_with fail
          · have HN : Hid (rdN top count l 0 = none) := by
              have := HSS.out
              rw [no_num (by assumption) (by assumption)] at this
              exact this
            rw [Exit.noGoto_ret]
            go_ret2
            exact ⟨ret_num (by rw [HN.out]; rfl), HG1.out⟩
          all_goals
            have HH : Hid (d.head? = some 48 → d = [48]) := by first | exact hn_a (by assumption) | exact hn_b (by assumption)
            clear hcv
            go_loop [14, 50] (fun n j => DigR d top n j) (fun _ j => d.length - (RowKit.intOf j).toNat)
            case atStart => exact ⟨0, 0, Nat.zero_le _, rfl, rfl, Nat.zero_le _, rfl, by intro c hc; simp at hc⟩
            case round =>
              obtain ⟨k, v, hk, rfl, rfl, hv, HV, HDg⟩ := hrel
              by_cases hkl : k < d.length
              · have hcx := HB.out k hkl
                have hc256 := getD_lt d k
                have HKD := no_digit (top := top) hkl
                have HKM := no_more (top := top) hkl
                have HKV := dval_next hkl
                have HKG := dig_next hkl HDg.out
                rw [← HV.out] at HKM HKV
                revert hcx hc256 HKD HKM HKV HKG
                generalize (d.getD k 0).toNat = c
                intro hcx hc256 HKD HKM HKV HKG
                have hki : (k : Int) < (d.length : Int) := by omega
                have hwk : wrap64 ((k : Int) + 1) = (k : Int) + 1 := wrap_succ (by have := HL.out; omega)
                by_cases hdg : 48 ≤ c ∧ c ≤ 57
                · obtain ⟨hdg1, hdg2⟩ := hdg
                  have hq1 : (48 : Int) ≤ (c : Int) := by omega
                  have hq2 : (c : Int) ≤ 57 := by omega
                  have hv0 : (0 : Int) ≤ (v : Int) := by omega
                  have hv1 : (v : Int) ≤ 255 := by omega
                  by_cases hov : top < 10 * v + (c - 48)
                  · have HN : Hid (rdN top count l 0 = none) := by
                      have := HSS.out
                      rw [HKM hov] at this
                      exact this
                    have hov' : (top : Int) < (v : Int) * 10 + ((c : Int) - 48) := by omega
                    clear HKD HKM HKV HKG HH HSS hov
                    go_wp2_with fail
                    try rw [Exit.noGoto_ret]
                    go_ret2
                    exact ⟨ret_num (by rw [HN.out]; rfl), HG.out⟩
                  · have hov' : ¬ (top : Int) < (v : Int) * 10 + ((c : Int) - 48) := by omega
                    have HKV' : Hid _ := HKV
                    have HKG' : Hid _ := HKG
                    clear HKD HKM HKV HKG
                    go_wp2_with fail
                    have hst := dig_step (top := top) hkl hdg1 hov HKV'.out (HKG'.out ⟨hdg1, hdg2⟩)
                    have hle := dig_less hkl
                    first
                      | exact ⟨⟨_, _, _, hst, rfl, rfl, rfl⟩, hle⟩
                      | exact ⟨hst, hle⟩
                      | (rw [hwk]; exact ⟨hst, hle⟩)
                · have HN : Hid (rdN top count l 0 = none) := by
                    have := HSS.out
                    rw [HKD hdg] at this
                    exact this
                  have hq : (c : Int) < 48 ∨ (57 : Int) < (c : Int) := by omega
                  clear HKD HKM HKV HKG HH HSS hdg
                  rcases hq with hq | hq
                  all_goals
                    go_wp2_with fail
                    try rw [Exit.noGoto_ret]
                    go_ret2
                    exact ⟨ret_num (by rw [HN.out]; rfl), HG.out⟩
              · obtain rfl : k = d.length := by omega
                have hki : ¬ ((d.length : Int) < (d.length : Int)) := by omega
                obtain ⟨hnum, hval⟩ := yes_num (top := top) hne HH.out HDg.out (by rw [← HV.out]; exact hv)
                have HJ : Hid (bits .or .u32 ((acc : Int) * 256 % 4294967296) (v : Int) = ((acc * 256 + v : Nat) : Int)) := or_join acc v (by have := HA2.out; omega) (by omega)
                have HF : Hid (rdN top count l 0 = if g = 0 then some (acc * 256 + v) else rdN top g rest (acc * 256 + v)) := by
                  have := HSS.out
                  rw [hnum, if_pos rfl, ← hval, ← HV.out] at this
                  exact this
                have hwi : wrap64 ((i : Int) + 1) = (i : Int) + 1 := wrap_succ (by omega)
                clear hnum hval HSS
                go_wp2_with fail
                go_roundg g
                case measure => omega
                case rel => exact row_step hig HZ.out HA.out (by omega) (by omega) HC.out HG.out HF.out HJ.out
end Go.Proofs.YtmofndckjjbfgaaDoor
