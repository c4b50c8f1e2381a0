/-
  PROVED: 'lodestarlaw01.OctetBack' returns true for every two slices v and sizes, and leaves its arguments as they were. No condition.
-/
import Derived.Test.YtcpagamkpmmgpaaRows
import Derived.WalkKit
import Derived.ProofKit
import Derived.OpenShut
import Derived.ShutString
import Derived.ChangeOld
import Derived.Below
import Derived.Deep.RegionHeld3
import Derived.Test.YtcpagamkpmmgpaaBackPlain
namespace Go.Proofs.Ytcpagamkpmmgpaa.octetBack
open Go.ChangeShapes Go.WideShapes Go.ChangeAt Go.RowKit
open Go.ChangeMaps (open_string shut_string)
set_option linter.unusedVariables false

theorem own : ownKnob Try.prog.godebug = none := by kernel_rfl
theorem laidOut : laidOutB Try.prog = true := by kernel_rfl

/-- WHAT THE WALK IS TOLD OF A SLICE OF INTEGERS THAT CAME IN: it is nil; or it leads to a row of 'cap' cells, the numbers 'zs' (the first 'len' are its elements, the rest its spare room), each fitting its kind. -/
def IsRow (k : IntKind) (w : World) (a : Option Addr) (len cap : Nat) (zs : List Int) : Prop :=
  (a = none ∧ len = 0 ∧ cap = 0 ∧ zs = []) ∨
  ∃ x, a = some x ∧ len ≤ cap ∧ cap ≤ maxLen ∧ zs.length = cap ∧ (∀ i, i < zs.length → w.cell? (x.add i) = some (.int k (zs.getD i 0))) ∧ ∀ n ∈ zs, (Lit.int k n).wf = true

theorem row_open {k : IntKind} {w : World} {a : Option Addr} {len cap : Nat} {zs : List Int} (h : IsRow k w a len cap zs) :
    ∃ b off, (0 < len → a = some ⟨b, off, none⟩) ∧ (∀ j, j < len → w.cell? ⟨b, off + j, none⟩ = some (.int k (zs.getD j 0))) ∧ (∀ j, j < len → (Lit.int k (zs.getD j 0)).wf = true) ∧ len ≤ maxLen := by
  rcases h with ⟨rfl, rfl, rfl, rfl⟩ | ⟨x, rfl, hl, hm, hz, hcell, hwz⟩
  · exact ⟨0, 0, by simp, by simp, by simp, by simp⟩
  · obtain ⟨b, off, spot⟩ := x
    refine ⟨b, off, fun h0 => ?_, fun j hj => ?_, fun j hj => ?_, by omega⟩
    · have hc := hcell 0 (by omega)
      have hspot : spot = none := by simpa [Addr.add] using World.cell?_spot hc
      rw [hspot]
    · have hc0 := hcell 0 (by omega)
      have hspot : spot = none := by simpa [Addr.add] using World.cell?_spot hc0
      subst hspot
      have hc := hcell j (by omega)
      rwa [add_plain] at hc
    · exact hwz _ (by simp [List.getD, show j < zs.length by omega])

set_option maxHeartbeats 4000000 in
theorem walk (a0 : Option Addr) (len0 cap0 : Nat) (z0 : List Int) (a1 : Option Addr) (len1 cap1 : Nat) (z1 : List Int) (w : World) (w0 : IsRow .u32 w a0 len0 cap0 z0) (w1 : IsRow .u8 w a1 len1 cap1 z1) :
    Calls Try.prog 3 #[.slice a0 len0 cap0, .slice a1 len1 cap1] w fun e w' => e = .returned (.bool true) ∧ Below w.heap.size w w' := by
  obtain ⟨b0, o0, ha0, hc0, hw0, hm0⟩ := row_open w0
  obtain ⟨b1, o1, ha1, hc1, hw1, hm1⟩ := row_open w1
  clear w0 w1
  unfold maxLen at hm0 hm1
  by_cases hbig : 1024 < len0
  · have hbig' : (1024 : Int) < (len0 : Int) := by omega
    go_enter Try.func3, Try.ntmps3
    go_wp2_with (go_at_call 5; refine (lives_any _).mono ?_; rintro e w' ⟨rfl, tl⟩)
    go_ret
    exact ⟨rfl, tl.below (Nat.le_refl _) (fun _ _ h => h)⟩
  · have hbig' : ¬ (1024 : Int) < (len0 : Int) := by omega
    go_enter Try.func3, Try.ntmps3
    go_wp2_with (go_at_call 6; refine (write_any _ _ (by omega)).mono ?_; rintro e wa ⟨rfl, hwr, ta⟩)
    go_loopw [6] (fun i wr => ∃ k : Nat, k ≤ len0 ∧ k ≤ len1 ∧ i = .int .i64 k ∧ (∃ v, WrS wr w.heap.size v (laidB z0 z1 k) (4 * (len0 : Int)) 0) ∧ Touch (fun _ => False) w wr) (fun i _ => len0 - (intOf i).toNat)
    case atStart => exact ⟨0, Nat.zero_le _, Nat.zero_le _, rfl, ⟨_, hwr⟩, ta⟩
    case round =>
      obtain ⟨k, hk0, hk1, rfl, ⟨v, hwk⟩, tk⟩ := hrel
      by_cases hlt : k < len0 ∧ k < len1
      · obtain ⟨hl0, hl1⟩ := hlt
        obtain rfl := ha0 (by omega)
        obtain rfl := ha1 (by omega)
        have hcx := tk.cellN (hc0 k hl0)
        have hcz := tk.cellN (hc1 k hl1)
        have hbx := bounds_u32 (hw0 k hl0)
        have hbz := bounds_u8 (hw1 k hl1)
        have hlB := laidB_len z0 z1 k
        have HB : Hid (laidB z0 z1 (k + 1) = laidB z0 z1 k ++ numBytes (nOf z1 k) (xOf z0 z1 k)) := rfl
        obtain ⟨x, hx⟩ : ∃ x, x = z0.getD k 0 := ⟨_, rfl⟩
        obtain ⟨z, hz⟩ : ∃ z, z = z1.getD k 0 := ⟨_, rfl⟩
        have hcs := nOf_cases z0 z1 k
        rw [← hx] at hcx hbx hcs
        rw [← hz] at hcz hbz hcs
        obtain ⟨hx0, hx1⟩ := hbx
        obtain ⟨hz0, hz1⟩ := hbz
        clear hx hz hc0 hc1 hw0 hw1 ha0 ha1
        rcases hcs with ⟨hr, hn, hxx⟩ | ⟨hr, hn, hxx⟩ | ⟨hr, hn, hxx⟩ | ⟨hr, hn, hxx⟩
        all_goals
          have HN : Hid (nOf z1 k = _ ∧ xOf z0 z1 k = _) := ⟨hn, hxx⟩
          clear hn hxx
        · go_wp2_with fail
          refine (number_ok1 _ _ _ _ (x / 16777216) wr hwk (by omega) (by omega) (by omega)).mono ?_
          rintro e w' ⟨rfl, v', hw', t', a'⟩
          go_wp2
          go_roundw
          case rel => exact ⟨k + 1, by omega, by omega, by go_num, ⟨v', by rw [HB.out, HN.out.1, HN.out.2]; exact hw'⟩, tk.trans' t' (fun i hi hf => wrF_new hwk (Nat.le_refl _) i hi hf)⟩
          case measure => simp [intOf]; omega
        · go_wp2_with fail
          refine (number_ok2 _ _ _ _ (x / 65536) wr hwk (by omega) (by omega) (by omega)).mono ?_
          rintro e w' ⟨rfl, v', hw', t', a'⟩
          go_wp2
          go_roundw
          case rel => exact ⟨k + 1, by omega, by omega, by go_num, ⟨v', by rw [HB.out, HN.out.1, HN.out.2]; exact hw'⟩, tk.trans' t' (fun i hi hf => wrF_new hwk (Nat.le_refl _) i hi hf)⟩
          case measure => simp [intOf]; omega
        · go_wp2_with fail
          refine (number_ok3 _ _ _ _ (x / 256) wr hwk (by omega) (by omega) (by omega)).mono ?_
          rintro e w' ⟨rfl, v', hw', t', a'⟩
          go_wp2
          go_roundw
          case rel => exact ⟨k + 1, by omega, by omega, by go_num, ⟨v', by rw [HB.out, HN.out.1, HN.out.2]; exact hw'⟩, tk.trans' t' (fun i hi hf => wrF_new hwk (Nat.le_refl _) i hi hf)⟩
          case measure => simp [intOf]; omega
        · go_wp2_with fail
          refine (number_ok4 _ _ _ _ (x) wr hwk (by omega) (by omega) (by omega)).mono ?_
          rintro e w' ⟨rfl, v', hw', t', a'⟩
          go_wp2
          go_roundw
          case rel => exact ⟨k + 1, by omega, by omega, by go_num, ⟨v', by rw [HB.out, HN.out.1, HN.out.2]; exact hw'⟩, tk.trans' t' (fun i hi hf => wrF_new hwk (Nat.le_refl _) i hi hf)⟩
          case measure => simp [intOf]; omega
      · have hlB := laidB_len z0 z1 k
        have hbyte := laidB_byte z0 z1 k
        by_cases hl0 : k < len0
        all_goals
          go_wp2_with fail
          refine (done_ok _ _ _ _ wr hwk (by omega)).mono ?_
          rintro e w5 ⟨v5, rfl, own5, t5⟩
          obtain ⟨va, vc, rfl, _⟩ := rowAt_form (own_rowAt own5)
          go_wp2_with fail
          refine (read_ok _ _ w5 (own_rowAt own5) hbyte (by omega)).mono ?_
          rintro e w6 ⟨rb, rv, rfl, hrb, hr6, hrv, t6⟩
          have t06 := (tk.trans t5).trans t6
          have hrb' : w.heap.size ≤ rb := by have := tk.size; have := t5.size; omega
          clear own5 t5 t6 hwr ta hwk tk hbyte hrv hrb
          go_wp2_with fail
          go_loopw [11] (fun i wr => ∃ j : Nat, j ≤ k ∧ i = .int .i64 j ∧ RdS wr rb rv (laidB z0 z1 k) (laidB z0 z1 j).length 0 ∧ Touch (fun _ => False) w wr) (fun i _ => k - (intOf i).toNat)
          case atStart => exact ⟨0, Nat.zero_le _, rfl, hr6, t06⟩
          case round =>
            obtain ⟨j, hj, rfl, hrd, tj⟩ := hrel
            by_cases hjk : j < k
            · obtain rfl := ha0 (by omega)
              obtain rfl := ha1 (by omega)
              have hj0 : j < len0 := by omega
              have hj1 : j < len1 := by omega
              have hcx := tj.cellN (hc0 j hj0)
              have hcz := tj.cellN (hc1 j hj1)
              have hbx := bounds_u32 (hw0 j hj0)
              have hbz := bounds_u8 (hw1 j hj1)
              have HB : Hid (laidB z0 z1 (j + 1) = laidB z0 z1 j ++ itemOf z0 z1 j) := rfl
              have HL := laidB_le z0 z1 j k hjk
              have HV : numVal (((laidB z0 z1 k).drop (laidB z0 z1 j).length).take (nOf z1 j)) = xOf z0 z1 j := by rw [laidB_at z0 z1 j k hjk]; exact xOf_val z0 z1 j hbx.1 (by omega)
              have HI := length_item z0 z1 j
              obtain ⟨x, hx⟩ : ∃ x, x = z0.getD j 0 := ⟨_, rfl⟩
              obtain ⟨z, hz⟩ : ∃ z, z = z1.getD j 0 := ⟨_, rfl⟩
              have hcs := nOf_cases z0 z1 j
              rw [← hx] at hcx hbx hcs
              rw [← hz] at hcz hbz hcs
              obtain ⟨hx0, hx1⟩ := hbx
              obtain ⟨hz0, hz1⟩ := hbz
              have hlb0 := lt_of_cell (hc0 j hj0)
              clear hx hz hc0 hc1 hw0 hw1 ha0 ha1 t06 hr6
              rcases hcs with ⟨hr, hn, hxx⟩ | ⟨hr, hn, hxx⟩ | ⟨hr, hn, hxx⟩ | ⟨hr, hn, hxx⟩
              · rw [hn, hxx] at HV
                rw [hn] at HL HI
                have HV' : Hid _ := HV
                have HL' : Hid _ := HL
                have HI' : Hid _ := HI
                clear HV HL HI hn hxx
                have hlx := lt_of_cell hcx
                have hnx : ¬ b0 = rb := by omega
                have hsh : ∀ W : World, (Op.shift BinOp.shr IntKind.u32 x IntKind.i64 (IntKind.i64.wrap (8 * IntKind.i64.wrap 3))).run Try.prog W = .ok (.int .u32 (x / 16777216)) W := by
                  intro W
                  rw [show IntKind.i64.wrap (8 * IntKind.i64.wrap 3) = 24 from by decide, shift_shr_any _ _ _ _ (by decide)]
                  simp [IntKind.bits]
                go_wp2_with fail
                go_region_held3 (fun w' => w'.cell? ⟨b0, o0 + j, none⟩ = some (.int .u32 x)) (go_keep) (first | (go_at_call 10; refine (rnumber_eq rb (laidB z0 z1 j).length 1 rv (laidB z0 z1 k) (x / 16777216) wr.drew (hrd.drewN 1) (by omega) (by omega) HL'.out HV'.out).mono ?_; rintro e w' ⟨rfl, hrd', t', _⟩; have hcy := (t'.cell (p := ⟨b0, o0 + j, none⟩) hlx hnx).trans hcx))
                clear hsh hcx hcy hcz
                go_wp2
                go_roundw
                case rel => exact ⟨j + 1, by omega, by go_num, by rw [HB.out, List.length_append, HI'.out]; exact hrd', tj.drew.trans' t' (fun i hi hf => by omega)⟩
                case measure => simp [intOf]; omega
              · rw [hn, hxx] at HV
                rw [hn] at HL HI
                have HV' : Hid _ := HV
                have HL' : Hid _ := HL
                have HI' : Hid _ := HI
                clear HV HL HI hn hxx
                have hlx := lt_of_cell hcx
                have hnx : ¬ b0 = rb := by omega
                have hsh : ∀ W : World, (Op.shift BinOp.shr IntKind.u32 x IntKind.i64 (IntKind.i64.wrap (8 * IntKind.i64.wrap 2))).run Try.prog W = .ok (.int .u32 (x / 65536)) W := by
                  intro W
                  rw [show IntKind.i64.wrap (8 * IntKind.i64.wrap 2) = 16 from by decide, shift_shr_any _ _ _ _ (by decide)]
                  simp [IntKind.bits]
                go_wp2_with fail
                go_region_held3 (fun w' => w'.cell? ⟨b0, o0 + j, none⟩ = some (.int .u32 x)) (go_keep) (first | (go_at_call 10; refine (rnumber_eq rb (laidB z0 z1 j).length 2 rv (laidB z0 z1 k) (x / 65536) wr.drew (hrd.drewN 1) (by omega) (by omega) HL'.out HV'.out).mono ?_; rintro e w' ⟨rfl, hrd', t', _⟩; have hcy := (t'.cell (p := ⟨b0, o0 + j, none⟩) hlx hnx).trans hcx))
                clear hsh hcx hcy hcz
                go_wp2
                go_roundw
                case rel => exact ⟨j + 1, by omega, by go_num, by rw [HB.out, List.length_append, HI'.out]; exact hrd', tj.drew.trans' t' (fun i hi hf => by omega)⟩
                case measure => simp [intOf]; omega
              · rw [hn, hxx] at HV
                rw [hn] at HL HI
                have HV' : Hid _ := HV
                have HL' : Hid _ := HL
                have HI' : Hid _ := HI
                clear HV HL HI hn hxx
                have hlx := lt_of_cell hcx
                have hnx : ¬ b0 = rb := by omega
                have hsh : ∀ W : World, (Op.shift BinOp.shr IntKind.u32 x IntKind.i64 (IntKind.i64.wrap (8 * IntKind.i64.wrap 1))).run Try.prog W = .ok (.int .u32 (x / 256)) W := by
                  intro W
                  rw [show IntKind.i64.wrap (8 * IntKind.i64.wrap 1) = 8 from by decide, shift_shr_any _ _ _ _ (by decide)]
                  simp [IntKind.bits]
                go_wp2_with fail
                go_region_held3 (fun w' => w'.cell? ⟨b0, o0 + j, none⟩ = some (.int .u32 x)) (go_keep) (first | (go_at_call 10; refine (rnumber_eq rb (laidB z0 z1 j).length 3 rv (laidB z0 z1 k) (x / 256) wr.drew (hrd.drewN 1) (by omega) (by omega) HL'.out HV'.out).mono ?_; rintro e w' ⟨rfl, hrd', t', _⟩; have hcy := (t'.cell (p := ⟨b0, o0 + j, none⟩) hlx hnx).trans hcx))
                clear hsh hcx hcy hcz
                go_wp2
                go_roundw
                case rel => exact ⟨j + 1, by omega, by go_num, by rw [HB.out, List.length_append, HI'.out]; exact hrd', tj.drew.trans' t' (fun i hi hf => by omega)⟩
                case measure => simp [intOf]; omega
              · rw [hn, hxx] at HV
                rw [hn] at HL HI
                have HV' : Hid _ := HV
                have HL' : Hid _ := HL
                have HI' : Hid _ := HI
                clear HV HL HI hn hxx
                have hlx := lt_of_cell hcx
                have hnx : ¬ b0 = rb := by omega
                have hsh : ∀ W : World, (Op.shift BinOp.shr IntKind.u32 x IntKind.i64 (IntKind.i64.wrap (8 * IntKind.i64.wrap 0))).run Try.prog W = .ok (.int .u32 (x)) W := by
                  intro W
                  rw [show IntKind.i64.wrap (8 * IntKind.i64.wrap 0) = 0 from by decide, shift_shr_any _ _ _ _ (by decide)]
                  simp [IntKind.bits]
                go_wp2_with fail
                go_region_held3 (fun w' => w'.cell? ⟨b0, o0 + j, none⟩ = some (.int .u32 x)) (go_keep) (first | (go_at_call 10; refine (rnumber_eq rb (laidB z0 z1 j).length 4 rv (laidB z0 z1 k) (x) wr.drew (hrd.drewN 1) (by omega) (by omega) HL'.out HV'.out).mono ?_; rintro e w' ⟨rfl, hrd', t', _⟩; have hcy := (t'.cell (p := ⟨b0, o0 + j, none⟩) hlx hnx).trans hcx))
                clear hsh hcx hcy hcz
                go_wp2
                go_roundw
                case rel => exact ⟨j + 1, by omega, by go_num, by rw [HB.out, List.length_append, HI'.out]; exact hrd', tj.drew.trans' t' (fun i hi hf => by omega)⟩
                case measure => simp [intOf]; omega
            · obtain rfl : j = k := by omega
              have hlm : (laidB z0 z1 j).length ≤ 4096 := by omega
              go_wp2_with fail
              refine (err_any _ 0 _ hrd.made hrd.err).mono ?_
              rintro e w' ⟨rfl, rfl⟩
              go_wp2_with fail
              refine (left_ok _ _ _ _ _ hrd).mono ?_
              rintro e w' ⟨rfl, nl, rfl⟩
              go_wp2_with fail
              refine (at_any _ (laidB z0 z1 j).length _ (hrd.drewN nl).pos).mono ?_
              rintro e w' ⟨rfl, rfl⟩
              go_wp2_with fail
              refine (lives_any _).mono ?_
              rintro e w' ⟨rfl, tl⟩
              go_wp2
              go_ret
              exact ⟨rfl, ((tj.drewN nl).trans tl).below (Nat.le_refl _) (fun _ _ h => h)⟩

/-! ### THE ROW's STEP: WRITTEN OUT: LEAVE IT -/
set_option maxRecDepth 100000 in
theorem lifted (os : Os) (started : os.Started) (H : Type) (enc : TypeId × Value → H) :
    ReturnsInHanded {} Try.checked os 3 .any (Rows.octetBackSpec.pre6 enc Try.prog Try.f3 Rows.octetBackRow.domain false) (Rows.octetBackSpec.post enc Try.prog Try.f3 false true false false) := by
  refine returnsInHanded_of_change (C := Try.checked) own started (by kernel_rfl) Try.func3
    (ChangeSpec.witness6 (enc := enc) (C := Try.checked) false ⟨#[], #[.slice none 0 0, .slice none 0 0], []⟩ 8 (by kernel_rfl) (by kernel_rfl) (by kernel_rfl) (by kernel_rfl)) ?_
  intro W base args ds gs before hval0 hW hcnd _
  have hval : ∀ (j : Nat) t v, Try.f3.params[j]? = some t → args[j]? = some v → Value.okWide Try.prog W .any base t v := hval0
  have hW' := hW
  obtain ⟨p, q, hA0, hV, rfl, hfz, hnd⟩ := hW
  have hA : DataW.TrodAll enc Try.prog W 0 (fun _ => true) true Try.f3.params.toList args.toList ds p := hA0
  rw [Try.params3] at hA hval
  obtain ⟨v0, vs0, d0, ds0, p0, q0, hargs, rfl, rfl, h0, r0⟩ := trodAll_cons hA
  obtain ⟨v1, vs1, d1, ds1, p1, q1, rfl, rfl, rfl, h1, r1⟩ := trodAll_cons r0
  obtain ⟨rfl, rfl, rfl⟩ := trodAll_nil r1
  obtain rfl : args = #[v0, v1] := by cases args; simp_all
  obtain ⟨rfl, rfl⟩ := trodVars_none hV
  obtain ⟨a0, len0, cap0, rfl⟩ := okWide_slice Try.underlying22 (hval 0 22 v0 rfl rfl)
  have k0 := h0
  have lt0 : ∀ x ∈ p0, x.block < W.heap.size := by obtain ⟨m, hm⟩ := k0; exact DataW.trod_lt m _ _ _ hm
  obtain ⟨z0, w0⟩ : ∃ zs, IsRow .u32 W a0 len0 cap0 zs := by
    obtain ⟨fuel, hf⟩ := h0
    rcases open_ints Try.underlying22 Try.underlying28 (by kernel_rfl) hf with ⟨hcs, _⟩ | ⟨x, l, c, zs, hcs, _, hl, hm, hz, _, hcell, hwz⟩
    · simp [Value.cells] at hcs
      obtain ⟨rfl, rfl, rfl⟩ := hcs
      exact ⟨[], .inl ⟨rfl, rfl, rfl, rfl⟩⟩
    · simp [Value.cells] at hcs
      obtain ⟨rfl, rfl, rfl⟩ := hcs
      exact ⟨zs, .inr ⟨_, rfl, hl, hm, by simpa using hz, hcell, hwz⟩⟩
  obtain ⟨a1, len1, cap1, rfl⟩ := okWide_slice Try.underlying23 (hval 1 23 v1 rfl rfl)
  have k1 := h1
  have lt1 : ∀ x ∈ p1, x.block < W.heap.size := by obtain ⟨m, hm⟩ := k1; exact DataW.trod_lt m _ _ _ hm
  obtain ⟨z1, w1⟩ : ∃ zs, IsRow .u8 W a1 len1 cap1 zs := by
    obtain ⟨fuel, hf⟩ := h1
    rcases open_ints Try.underlying23 Try.underlying5 (by kernel_rfl) hf with ⟨hcs, _⟩ | ⟨x, l, c, zs, hcs, _, hl, hm, hz, _, hcell, hwz⟩
    · simp [Value.cells] at hcs
      obtain ⟨rfl, rfl, rfl⟩ := hcs
      exact ⟨[], .inl ⟨rfl, rfl, rfl, rfl⟩⟩
    · simp [Value.cells] at hcs
      obtain ⟨rfl, rfl, rfl⟩ := hcs
      exact ⟨zs, .inr ⟨_, rfl, hl, hm, by simpa using hz, hcell, hwz⟩⟩
  clear hA0 hval0
  refine (walk a0 len0 cap0 z0 a1 len1 cap1 z1 W w0 w1).mono fun e W' ⟨he, bel⟩ => ?_
  subst he
  exact ⟨_, rfl, _, _, _, [], _, [], hW', trodAll_mk1 (shut_bool Try.underlying4 _), (trodAll_cons_mk (Below.trod laidOut (by kernel_rfl) (of_decide_eq_true (by kernel_rfl)) k0 bel lt0) (trodAll_cons_mk (Below.trod laidOut (by kernel_rfl) (of_decide_eq_true (by kernel_rfl)) k1 bel lt1) trodAll_mk0)), rfl, bel.frame _, fun h => by cases h⟩

theorem over : Rows.octetBackRow.holds Try.pinned (OpenSpec.ofChange Rows.octetBackSpec) :=
  OpenClaim.holds_of_wide 3 Try.f3 rfl rfl rfl rfl rfl rfl rfl ⟨rfl, rfl, rfl, rfl, rfl⟩ rfl rfl rfl rfl rfl (by kernel_rfl) Try.func3 (by kernel_rfl)
    (of_decide_eq_true (by kernel_rfl)) (by unfold Func.isWrapper; first | (rw [if_pos (by decide +kernel)]; kernel_rfl) | (rw [if_neg (by decide +kernel)]; exact ⟨rfl, rfl⟩))
    (fun os started H enc _ => lifted os started H enc)

/-- ████ THE STATEMENT ████ -/
theorem proved : Rows.OctetBackSaid := over
#print axioms proved
end Go.Proofs.Ytcpagamkpmmgpaa.octetBack

namespace Go.Proofs.Ytcpagamkpmmgpaa
theorem octetBack_holds : Rows.OctetBackSaid := octetBack.proved
end Go.Proofs.Ytcpagamkpmmgpaa
