/- 'lodestarlaw02.PrefixTexts': the walk. -/
import Derived.Test.YtmofndckjjbfgaaDoorPreNests
import Derived.Test.YtmofndckjjbfgaaDoorPreTells
import Derived.Test.YtmofndckjjbfgaaDoorPreTx4
import Derived.Test.YtmofndckjjbfgaaDoorPreTx5
namespace Go.Proofs.YtmofndckjjbfgaaDoor
open Go.RowKit Go.Sort Go.Lib
set_option linter.unusedVariables false
set_option maxRecDepth 100000

theorem rdotted_int (x : Int) (w : World) (h0 : 0 ≤ x) (h1 : x < 4294967296) (htab : Tab w) :
    Calls Tryd.prog 35 #[.int .u32 x] w fun e w' => e = .returned (.string ⟨(dot x.toNat).toArray⟩) ∧ Gr w w' := by
  have := rdotted_any x.toNat w (by omega) htab
  rw [toNat_int h0] at this
  exact this
/-- What Text answers. -/
def ptxt (x n : Int) : List UInt8 := if pis x n = true then ptx x.toNat n.toNat else []
theorem text_all (x n : Int) (w : World) (h0 : 0 ≤ x) (h1 : x < 4294967296) (hn : 0 ≤ n) (htab : Tab w) :
    Calls Tryd.prog 36 #[.agg #[.int .u32 x, .int .u8 n]] w fun e w' => e = .returned (.string ⟨(ptxt x n).toArray⟩) ∧ Gr w w' := by
  cases hp : pis x n with
  | true =>
    have := text_yes x.toNat n.toNat w (by omega) (by rw [toNat_int h0, toNat_int hn]; exact hp) htab
    rw [toNat_int h0, toNat_int hn] at this
    simpa only [ptxt, hp, if_true] using this
  | false =>
    have := text_no x.toNat n.toNat w (by omega) (by rw [toNat_int h0, toNat_int hn]; exact hp)
    rw [toNat_int h0, toNat_int hn] at this
    rw [ptxt, hp]
    exact this
theorem rtext_all (x n : Int) (w : World) (h0 : 0 ≤ x) (h1 : x < 4294967296) (hn : 0 ≤ n) (htab : Tab w) :
    Calls Tryd.prog 37 #[.agg #[.int .u32 x, .int .u8 n]] w fun e w' => e = .returned (.string ⟨(ptxt x n).toArray⟩) ∧ Gr w w' := by
  cases hp : pis x n with
  | true =>
    have := rtext_yes x.toNat n.toNat w (by omega) (by rw [toNat_int h0, toNat_int hn]; exact hp) htab
    rw [toNat_int h0, toNat_int hn] at this
    simpa only [ptxt, hp, if_true] using this
  | false =>
    have := rtext_no x.toNat n.toNat w (by omega) (by rw [toNat_int h0, toNat_int hn]; exact hp)
    rw [toNat_int h0, toNat_int hn] at this
    rw [ptxt, hp]
    exact this

set_option maxHeartbeats 2000000 in
theorem texts_long (l : List UInt8) (a n : Int) (w : World) (hl : decide (2147483647 < ((l.length : Nat) : Int)) = true) (htab : Tab w) :
    Calls Tryd.prog 5 #[.string ⟨l.toArray⟩, .agg #[.int .u32 a, .int .u8 n]] w fun e w' => e = .returned (.bool true) ∧ Gr w w' := by
  have HL : Hid _ := hl
  have HT : Hid (Tab w) := htab
  clear hl htab
  go_enter Tryd.func5, Tryd.ntmps5
  go_wp2_with fail
  refine Calls.mono (long_at l.length true _ HL.out) ?_
  rintro e w' ⟨rfl, rfl⟩
  go_wp2_with fail
  refine Calls.mono (lives_any _ ((Gr.one w _).tab HT.out)) ?_
  rintro e w1 ⟨rfl, hg1⟩
  go_wp2_with fail
  go_ret
  exact ⟨rfl, (Gr.one _ _).trans hg1⟩

set_option maxHeartbeats 4000000 in
theorem texts_short (l : List UInt8) (a n : Int) (w : World) (hl : decide (2147483647 < ((l.length : Nat) : Int)) = false) (hn : 0 ≤ n) (ha : 0 ≤ a ∧ a < 4294967296) (htab : Tab w) :
    Calls Tryd.prog 5 #[.string ⟨l.toArray⟩, .agg #[.int .u32 a, .int .u8 n]] w fun e w' => e = .returned (.bool true) ∧ Gr w w' := by
  have HL : Hid _ := hl
  have HT : Hid (Tab w) := htab
  have HN : Hid _ := hn
  have HA : Hid _ := ha
  have HLs : Hid (l.length ≤ 2147483647) := by
    show _ ≤ _
    have := of_decide_eq_false hl
    omega
  obtain ⟨yA, yN, yE, hyv, _⟩ := par_sym l
  obtain ⟨dA, dE, hdv, _⟩ := adr_sym l
  have HYV : Hid _ := hyv
  have HDV : Hid _ := hdv
  clear hl htab hn ha hyv hdv
  go_enter Tryd.func5, Tryd.ntmps5
  go_wp2_with fail
  refine Calls.mono (long_at l.length false _ HL.out) ?_
  rintro e w' ⟨rfl, rfl⟩
  go_wp2_with fail
  refine Calls.mono (address_any l _ HLs.out) ?_
  rintro e w1 ⟨rfl, hg1⟩
  rw [HDV.out]
  have HP1 : Hid (Px w1 w.heap.size a n) := hg1.px (Px.new w a n 24)
  have HG1 : Hid (Gr w w1) := (Gr.one _ _).trans hg1
  clear hg1
  go_wp2_with fail
  refine Calls.mono (raddress_any l _ HLs.out) ?_
  rintro e w2 ⟨rfl, hg2⟩
  rw [HDV.out]
  have HP2 : Hid (Px w2 w.heap.size a n) := hg2.px HP1.out
  have HG2 : Hid (Gr w w2) := HG1.out.trans hg2
  clear hg2 HP1 HG1
  go_wp2_with fail
  refine Calls.mono (parse_any l _ HLs.out) ?_
  rintro e w3 ⟨rfl, hg3⟩
  rw [HYV.out]
  have HP3 : Hid (Px w3 w.heap.size a n) := hg3.px HP2.out
  have HG3 : Hid (Gr w w3) := HG2.out.trans hg3
  clear hg3 HP2 HG2
  go_wp2_with fail
  refine Calls.mono (rparse_any l _ HLs.out) ?_
  rintro e w4 ⟨rfl, hg4⟩
  rw [HYV.out]
  have hp1 : Px w4 w.heap.size a n := hg4.px ((Gr.one _ _).px HP3.out)
  have hp2 : Px w4 w3.heap.size yA yN := hg4.px (Px.new w3 yA yN 24)
  have HP4 : Hid (Px (w4.alloc (.cells #[.int .u32 yA, .int .u8 yN] 24)) w.heap.size a n) := (Gr.one _ _).px hp1
  have HX4 : Hid (Px (w4.alloc (.cells #[.int .u32 yA, .int .u8 yN] 24)) w3.heap.size yA yN) := (Gr.one _ _).px hp2
  have HY4 : Hid (Px (w4.alloc (.cells #[.int .u32 yA, .int .u8 yN] 24)) w4.heap.size yA yN) := Px.new w4 yA yN 24
  have HG4 : Hid (Gr w (w4.alloc (.cells #[.int .u32 yA, .int .u8 yN] 24))) := ((HG3.out.alloc _).trans hg4).alloc _
  have l1 := hp1.lt
  have l2 := hp2.lt
  clear hg4 HP3 HG3 hp1 hp2
  go_upto_region 7 with fail
  have p0 := aft_cell HP4.out.1
  have p1 := aft_cell HP4.out.2
  have p2 := aft_cell HX4.out.1
  have p3 := aft_cell HX4.out.2
  have p4 := aft_cell HY4.out.1
  have p5 := aft_cell HY4.out.2
  refine wp_region_aft (by kernel_rfl) (by kernel_rfl) ?_
  repeat (first | go_big_quiet_skip | (go_big_quiet_want; go_big_quiet_op; first | go_big_quiet_on | (refine Exists.intro _ ⟨fun _ => rfl, ?_⟩; go_big_quiet_on)))
  go_big_quiet_want; go_big_quiet_op; refine Exists.intro _ ⟨fun u => Aft.call (dotted_int a _ HA.out.1 HA.out.2 (u.gr.tab (HG4.out.tab HT.out))), ?_⟩; go_big_quiet_on
  repeat (first | go_big_quiet_skip | (go_big_quiet_want; go_big_quiet_op; first | go_big_quiet_on | (refine Exists.intro _ ⟨fun _ => rfl, ?_⟩; go_big_quiet_on)))
  go_big_quiet_want; go_big_quiet_op; refine Exists.intro _ ⟨fun u => Aft.call (rdotted_int a _ HA.out.1 HA.out.2 (u.gr.tab (HG4.out.tab HT.out))), ?_⟩; go_big_quiet_on
  repeat (first | go_big_quiet_skip | (go_big_quiet_want; go_big_quiet_op; first | go_big_quiet_on | (refine Exists.intro _ ⟨fun _ => rfl, ?_⟩; go_big_quiet_on)))
  go_big_quiet_want; go_big_quiet_op; refine Exists.intro _ ⟨fun u => Aft.call (text_all a n _ HA.out.1 HA.out.2 HN.out (u.gr.tab (HG4.out.tab HT.out))), ?_⟩; go_big_quiet_on
  repeat (first | go_big_quiet_skip | (go_big_quiet_want; go_big_quiet_op; first | go_big_quiet_on | (refine Exists.intro _ ⟨fun _ => rfl, ?_⟩; go_big_quiet_on)))
  go_big_quiet_want; go_big_quiet_op; refine Exists.intro _ ⟨fun u => Aft.call (rtext_all a n _ HA.out.1 HA.out.2 HN.out (u.gr.tab (HG4.out.tab HT.out))), ?_⟩; go_big_quiet_on
  repeat (first | go_big_quiet_skip | (go_big_quiet_want; go_big_quiet_op; first | go_big_quiet_on | (refine Exists.intro _ ⟨fun _ => rfl, ?_⟩; go_big_quiet_on)))
  go_big_quiet_want; go_big_quiet_op; refine Exists.intro _ ⟨fun u => Aft.call (lives_any _ (u.gr.tab (HG4.out.tab HT.out))), ?_⟩; go_big_quiet_on
  repeat (first | go_big_quiet_skip | (go_big_quiet_want; go_big_quiet_op; first | go_big_quiet_on | (refine Exists.intro _ ⟨fun _ => rfl, ?_⟩; go_big_quiet_on)))
  refine wpQuiet_nil ?_
  rintro w5 ⟨⟨_, hg5⟩, rfl⟩
  clear p0 p1 p2 p3 p4 p5
  go_wp2_with fail
  go_ret
  exact ⟨rfl, HG4.out.trans hg5⟩

theorem texts_walk (l : List UInt8) (a n : Int) (w : World) (hn : 0 ≤ n) (ha : 0 ≤ a ∧ a < 4294967296) (htab : Tab w) :
    Calls Tryd.prog 5 #[.string ⟨l.toArray⟩, .agg #[.int .u32 a, .int .u8 n]] w fun e w' => e = .returned (.bool true) ∧ Gr w w' := by
  cases hl : decide (2147483647 < ((l.length : Nat) : Int)) with
  | true => exact texts_long l a n w hl htab
  | false => exact texts_short l a n w hl hn ha htab
end Go.Proofs.YtmofndckjjbfgaaDoor
