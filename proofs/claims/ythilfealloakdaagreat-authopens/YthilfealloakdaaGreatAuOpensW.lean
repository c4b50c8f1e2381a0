/- Contract: lives of the law of layer 8. -/
import Derived.Test.YthilfealloakdaaGreatAuApiS
import Derived.Lib.SlBytesConst
import Derived.Test.YthilfealloakdaaGreatAuGiv
import Derived.Test.YthilfealloakdaaGreatHeadV
import Derived.Test.YthilfealloakdaaGreatAuRO3
namespace Go.Proofs.YthilfealloakdaaGreat
open Go.RowKit Go.Shelf
set_option linter.unusedVariables false
set_option maxRecDepth 100000

def ackB : List Int := [2, 5, 0, 24, 0, 0, 0, 1, 0, 0, 0, 0, 253, 225, 0, 0, 0, 0, 0, 0, 0, 0, 0, 0]
def ackS : List Int := [2, 5, 0, 24, 0, 0, 0, 1, 0, 0, 0, 0, 253, 224, 0, 1, 97, 98, 0, 0, 0, 0, 0, 0]
def keyL : AKP := ⟨7, 1, [97, 98], 0, 99, 0, 99⟩
theorem lives_sign : signE ackB [keyL] 5 = 0 ∧ signB ackB [keyL] 5 0 = ackS := by decide +kernel
theorem lives_open : openE ackS [keyL] 5 = 0 ∧ openN ackS [keyL] 5 = 24 ∧ openE ackS [keyL] 100 = 26 := by decide +kernel
theorem keyL_ok : keyL.Ok := ⟨by decide, by decide, by decide, by decide, by decide, by decide, by decide⟩
theorem au_lit (w : World) (l : List Int) (C : Array Value) (hC : C.toList = bytesOf l) (hm : l.length ≤ 1000) : ArgAt (w.alloc (.cells C 5)) (.slice (some ⟨w.heap.size, 0, none⟩) l.length l.length) l :=
  Or.inr ⟨⟨w.heap.size, 0, none⟩, l.length, rfl, Nat.le_refl _, by unfold maxLen; omega, src_new w C 5 0 l (by simpa using hC)⟩
set_option maxHeartbeats 1000000 in
theorem plainAck_any (w : World) : Calls Tryz.prog 24 #[] w fun e w' => ∃ a c, e = .returned (.slice a 24 c) ∧ ArgAt w' (.slice a 24 c) ackB ∧ Touch (fun _ => False) w w' := by
  go_enter Tryz.func24, Tryz.ntmps24
  go_wp2
  go_ret
  exact ⟨_, _, rfl, au_lit w ackB _ rfl (by decide), (Touch.refl _ _).alloc _⟩
theorem lit_ab (w : World) : ArgAt (w.alloc (.cells #[.int .u8 97, .int .u8 98] 5 (2, 3))) (.slice (some ⟨w.heap.size, 0, none⟩) 2 2) [97, 98] := by
  refine Or.inr ⟨⟨w.heap.size, 0, none⟩, 2, rfl, Nat.le_refl _, by simp [maxLen], fun j u hj => ?_⟩
  rw [add_plain, cell_of_row _ w.heap.size (0 + j) #[.int .u8 97, .int .u8 98] 5 (2, 3) (by show (w.heap.push _)[w.heap.size]? = _; simp), Nat.zero_add]
  have e : (#[.int .u8 97, .int .u8 98] : Array Value)[j]? = (bytesOf [97, 98])[j]? := by
    rw [show (#[.int .u8 97, .int .u8 98] : Array Value) = (bytesOf [97, 98]).toArray from rfl, List.getElem?_toArray]
  rw [e]
  exact hj
theorem livesC (w : World) : ChainAt ((w.alloc (.cells #[.int .u8 97, .int .u8 98] 5 (2, 3))).alloc (.cells #[.int .u8 7, .int .u16 1, .slice (some ⟨w.heap.size, 0, none⟩) 2 2, .int .i64 0, .int .i64 99, .int .i64 0, .int .i64 99] 59)) (.slice (some ⟨w.heap.size + 1, 0, none⟩) 1 1) [⟨keyL, some ⟨w.heap.size, 0, none⟩, 2⟩] := by
  refine ⟨⟨rfl, Or.inr ⟨⟨w.heap.size + 1, 0, none⟩, 1, rfl, Nat.le_refl _, by simp [maxLen], fun j u hj => ?_⟩⟩, fun x hx => ?_⟩
  · have r := row_new (w.alloc (.cells #[.int .u8 97, .int .u8 98] 5 (2, 3))) 59 #[.int .u8 7, .int .u16 1, .slice (some ⟨w.heap.size, 0, none⟩) 2 2, .int .i64 0, .int .i64 99, .int .i64 0, .int .i64 99]
    rw [World.size_alloc] at r
    rw [add_plain, Nat.zero_add, r.cell j]
    exact hj
  · simp at hx
    subst hx
    exact ⟨keyL_ok, (lit_ab w).keep ((Touch.refl _ _).alloc _) (fun _ _ h => h)⟩
theorem pureL_one (k : AKP) (a : Option Addr) (c : Nat) : pureL [⟨k, a, c⟩] = [k] := rfl
set_option maxHeartbeats 2000000 in
theorem lives8 (w : World) : Calls Tryz.prog 7 #[] w fun e w' => e = .returned (.bool true) ∧ Touch (fun _ => False) w w' := by
  have hS : Hid (∀ w' v vk ka, Touch (fun _ => False) w w' → ArgAt w' v ackB → ChainAt w' vk [⟨keyL, ka, 2⟩] → Calls Tryz.prog 20 #[v, vk, .int .i64 5, .int .u32 0] w' fun e w'' => ∃ u, e = .returned (.tuple #[u, .int .i64 0]) ∧ Buf w' w'' u ackS) := fun w' v vk ka t hv hc => by
    have := asign_any v vk ackB [⟨keyL, ka, 2⟩] 5 0 w' hv (by decide) (by decide) hc (by simp) (by omega)
    rw [pureL_one, lives_sign.1, lives_sign.2] at this
    exact this
  have hO : Hid (∀ w' v vk ka, ArgAt w' v ackS → ChainAt w' vk [⟨keyL, ka, 2⟩] → Calls Tryz.prog 10 #[v, vk, .int .i64 5] w' fun e w'' => ∃ s, e = .returned (.tuple #[.int .u32 s, .int .i64 24, .int .i64 0]) ∧ Touch (fun _ => False) w' w'') := fun w' v vk ka hv hc => by
    have := aopen_any v vk ackS [⟨keyL, ka, 2⟩] 5 w' hv (by decide) (by decide) hc (by simp)
    rw [pureL_one, lives_open.1, lives_open.2.1] at this
    exact this.mono fun e w'' h => ⟨_, h⟩
  have hP : Hid (∀ w' v vk ka, ArgAt w' v ackS → ChainAt w' vk [⟨keyL, ka, 2⟩] → Calls Tryz.prog 10 #[v, vk, .int .i64 100] w' fun e w'' => ∃ s n, e = .returned (.tuple #[.int .u32 s, .int .i64 n, .int .i64 26]) ∧ Touch (fun _ => False) w' w'') := fun w' v vk ka hv hc => by
    have := aopen_any v vk ackS [⟨keyL, ka, 2⟩] 100 w' hv (by decide) (by decide) hc (by simp)
    rw [pureL_one, lives_open.2.2] at this
    exact this.mono fun e w'' h => ⟨_, _, h⟩
  have kc := fun (w : World) (C : Array Value) (n c : Nat) => Lib.run_convert_bytes_const (P := Tryz.prog) w 22 5 C n c Tryz.underlying22 Tryz.underlying5
  go_enter Tryz.func7, Tryz.ntmps7
  go_wp2_with fail
  have C0 := livesC w
  have T0 : Hid (Touch (fun _ => False) w ((w.alloc (.cells #[.int .u8 97, .int .u8 98] 5 (2, 3))).alloc (.cells #[.int .u8 7, .int .u16 1, .slice (some ⟨w.heap.size, 0, none⟩) 2 2, .int .i64 0, .int .i64 99, .int .i64 0, .int .i64 99] 59))) := ((Touch.refl _ w).alloc _).alloc _
  generalize (w.alloc (.cells #[.int .u8 97, .int .u8 98] 5 (2, 3))).alloc (.cells #[.int .u8 7, .int .u16 1, .slice (some ⟨w.heap.size, 0, none⟩) 2 2, .int .i64 0, .int .i64 99, .int .i64 0, .int .i64 99] 59) = wa at C0 T0 ⊢
  have HC : Hid (∀ w', Touch (fun _ => False) wa w' → ChainAt w' (.slice (some ⟨w.heap.size + 1, 0, none⟩) 1 1) [⟨keyL, some ⟨w.heap.size, 0, none⟩, 2⟩]) := fun w' t => C0.keep t
  clear C0
  refine Calls.mono (plainAck_any wa) ?_
  rintro e w1 ⟨pa, pc, rfl, a1, t1⟩
  have A1 : Hid (ArgAt w1 (.slice pa 24 pc) ackB) := a1
  have T1 : Hid (Touch (fun _ => False) wa w1) := t1
  clear a1 t1
  go_wp2_with fail
  refine Calls.mono (hS.out w1 _ _ _ (T0.out.trans T1.out) A1.out (HC.out w1 T1.out)) ?_
  rintro e w2 ⟨u, rfl, b2⟩
  have T2 : Hid (Touch (fun _ => False) wa w2) := T1.out.trans b2.t
  have AU : Hid (∀ w', Touch (fun _ => False) w2 w' → ArgAt w' u ackS) := fun w' t => (b2.keep t).arg
  obtain ⟨g2, o2, c2, eu, hg⟩ : ∃ g o c, u = .slice (some ⟨g, o, none⟩) 24 c ∧ ∀ j v, (bytesOf ackS)[j]? = some v → w2.cell? ⟨g, o + j, none⟩ = some v := by
    rcases b2.row with ⟨_, h⟩ | ⟨g, o, c, e, _, _, h⟩
    · cases h
    · exact ⟨g, o, c, e, h⟩
  subst eu
  have HG15 : Hid (∀ w', Touch (fun _ => False) w2 w' → w'.cell? ⟨g2, o2 + 15, none⟩ = some (.int .u8 1)) := fun w' t => t.cellN (hg 15 _ rfl)
  have HG16 : Hid (∀ w', Touch (fun _ => False) w2 w' → w'.cell? ⟨g2, o2 + 16, none⟩ = some (.int .u8 97)) := fun w' t => t.cellN (hg 16 _ rfl)
  clear b2 hg A1 T1
  go_wp2_with fail
  refine Calls.mono (hO.out w2 _ _ _ (AU.out w2 (Touch.refl _ _)) (HC.out w2 T2.out)) ?_
  rintro e w3 ⟨s3, rfl, t3⟩
  have T3 : Hid (Touch (fun _ => False) w2 w3) := t3
  clear t3
  go_wp2_with fail
  refine Calls.mono (hP.out w3 _ _ _ (AU.out w3 T3.out) (HC.out w3 (T2.out.trans T3.out))) ?_
  rintro e w4 ⟨s4, n4, rfl, t4⟩
  have T4 : Hid (Touch (fun _ => False) w2 w4) := T3.out.trans t4
  have c15 := HG15.out w4 T4.out
  have c16 := HG16.out w4 T4.out
  clear t4 T3
  go_wp2_with fail
  go_ret
  exact ⟨rfl, T0.out.trans (T2.out.trans T4.out)⟩
end Go.Proofs.YthilfealloakdaaGreat

namespace Go.Proofs.YthilfealloakdaaGreat
open Go.RowKit
set_option linter.unusedVariables false
set_option maxRecDepth 100000

set_option maxHeartbeats 1000000 in
theorem opens8_any (v vk : Value) (rs : List Int) (ks : List KE) (now : Int) (w : World) (hv : ArgAt w v rs) (hby : ∀ z ∈ rs, 0 ≤ z ∧ z < 256) (hrl : rs.length ≤ 140737488355328) (hc : ChainAt w vk ks) (hz : ∀ x ∈ ks, x.p.sec.length ≤ 140737488355328) (hkl : ks.length ≤ 140737488355328) :
    Calls Tryz.prog 3 #[v, vk, .int .i64 now] w fun e w' => e = .returned (.bool true) ∧ Touch (fun _ => False) w w' := by
  obtain ⟨ba, bc, rfl, -⟩ := hv.form
  have HH := heavy_any (.slice ba rs.length bc) vk rs.length ks w ba bc rfl hrl hc hz hkl
  have HV : Hid (∀ w', Touch (fun _ => False) w w' → ArgAt w' (.slice ba rs.length bc) rs) := fun w' t => hv.keep t (fun _ _ h => h)
  have HBY : Hid (∀ z ∈ rs, 0 ≤ z ∧ z < 256) := hby
  have HC : Hid (∀ w', Touch (fun _ => False) w w' → ChainAt w' vk ks) := fun w' t => hc.keep t
  have HLN : Hid (ks.length ≤ hsum ks) := hsum_len ks
  obtain ⟨va, vc, rfl, -⟩ := ValsAt.form hc.vals
  clear hc hz hkl hv hby hrl
  go_enter Tryz.func3, Tryz.ntmps3
  go_wp2_with fail
  refine Calls.mono HH ?_
  rintro e w1 ⟨⟨B, rfl, hB⟩, rfl⟩
  clear HH
  cases B
  · have hs0 := hB rfl
    have hs : hsum ks ≤ 131072 := by omega
    have hrl : rs.length ≤ 131072 := by omega
    have hl : ks.length ≤ 1000000 := by have := HLN.out; omega
    have HKS : Hid (∀ x ∈ ks, x.p.sec.length ≤ 1000000) := fun x hx => by have := hsum_mem x hx; omega
    have HW := wide_any _ rs w (HV.out w (Touch.refl _ _)) HBY.out (by omega)
    clear hB hs0 HLN
    go_wp2_with fail
    refine Calls.mono HW ?_
    rintro e w2 ⟨rfl, hb2, t2⟩
    clear HW
    generalize w.heap.size = g2 at hb2 ⊢
    have T2 : Hid (Touch (fun _ => False) w w2) := t2
    have HB2 : Hid (∀ w', Touch (fun _ => False) w2 w' → w'.heap[g2]? = some (.cells (bytesOf (rs ++ spareMarks rs.length)).toArray 5 (0, 0))) := fun w' t => t.heapN hb2
    have HRW : Hid (∀ w', Touch (fun _ => False) w2 w' → RowAt w' (.slice (some ⟨g2, 0, none⟩) rs.length (rs.length + 64)) rs) := fun w' t => WideKE.row (x := ⟨⟨0, 0, rs, 0, 0, 0, 0⟩, some ⟨g2, 0, none⟩, rs.length + 64⟩) (base := 0) ⟨g2, rfl, rfl, Nat.zero_le _, t.heapN hb2⟩ hrl
    have HG' := given_any _ ks w2 (HC.out _ t2) hs
    clear hb2 t2 hs
    go_wp2_with fail
    refine Calls.mono HG' ?_
    rintro e w3 ⟨u, ls, rfl, gv⟩
    obtain ⟨sa, sc, es⟩ := gv.buf.form
    subst es
    have HLL : Hid (ls.length = ks.length) := gv.len
    have GV : Hid (∀ w', Touch (fun _ => False) w3 w' → Given w2 w' (.slice sa ls.length sc) ks ls) := fun w' t => gv.keep t
    have T3 : Hid (Touch (fun _ => False) w2 w3) := gv.buf.t
    have HS : Hid (pureL ls = pureL ks) := gv.same
    have HO := aopen_any _ _ rs ls now w3 (HRW.out _ T3.out).arg HBY.out (by omega) gv.chain (by have := HLL.out; omega)
    rw [HS.out] at HO
    have HLE : Hid (ls.length ≤ 1000000) := by show _ ≤ _; have := HLL.out; omega
    clear gv HG'
    generalize hSS : openS rs (pureL ks) now = SS at HO
    generalize hNN : openN rs (pureL ks) now = NN at HO
    generalize hEE : openE rs (pureL ks) now = EE at HO
    have HEQ : Hid (openS rs (pureL ks) now = SS ∧ openN rs (pureL ks) now = NN ∧ openE rs (pureL ks) now = EE) := ⟨hSS, hNN, hEE⟩
    clear hSS hNN hEE
    go_wp2_with fail
    refine Calls.mono HO ?_
    rintro e w4 ⟨rfl, t4⟩
    clear HO
    have T4 : Hid (Touch (fun _ => False) w3 w4) := t4
    have HR := ropen_any _ _ rs ks now w4 (HV.out _ (T2.out.trans (T3.out.trans t4))) HBY.out (by omega) (HC.out _ (T2.out.trans (T3.out.trans t4))) hl HKS.out
    rw [HEQ.out.1, HEQ.out.2.1, HEQ.out.2.2] at HR
    clear t4 HEQ
    go_wp2_with fail
    refine Calls.mono HR ?_
    rintro e w5 ⟨rfl, t5⟩
    clear HR
    have T5 : Hid (Touch (fun _ => False) w3 w5) := T4.out.trans t5
    have T25 : Hid (Touch (fun _ => False) w2 w5) := T3.out.trans T5.out
    have T05 : Hid (Touch (fun _ => False) w w5) := T2.out.trans T25.out
    clear t5 T4 T3
    go_wp2_with fail
    refine Calls.mono (eq_true _ _ rs w5 (HRW.out _ T25.out) (HV.out _ T05.out)) ?_
    rintro e w6 ⟨rfl, n6, h6⟩
    have t6 : Touch (fun _ => False) w5 w6 := h6 ▸ (Touch.refl _ _).drewN n6
    clear h6
    have T6 : Hid (Touch (fun _ => False) w5 w6) := t6
    clear t6
    go_wp2_with fail
    refine Calls.mono (spare_any g2 rs w6 (HB2.out _ (T25.out.trans T6.out)) (by omega)) ?_
    rintro e w7 ⟨rfl, rfl⟩
    go_wp2_with fail
    refine Calls.mono (stays_any _ _ ks ls w2.heap.size w6 (GV.out _ (T5.out.trans T6.out)).chain (HC.out _ (T05.out.trans T6.out)) HS.out (GV.out _ (T5.out.trans T6.out)).wide (GV.out _ (T5.out.trans T6.out)).big hl) ?_
    rintro e w8 ⟨rfl, t8⟩
    have T8 : Hid (Touch (fun _ => False) w w8) := (T05.out.trans T6.out).trans t8
    clear t8
    go_wp2_with fail
    refine Calls.mono (lives8 _) ?_
    rintro e w9 ⟨rfl, t9⟩
    go_wp2_with fail
    go_ret
    exact ⟨rfl, T8.out.trans t9⟩
  · go_wp2_with fail
    refine Calls.mono (lives8 _) ?_
    rintro e w7 ⟨rfl, t7⟩
    go_wp2_with fail
    go_ret
    exact ⟨rfl, t7⟩
end Go.Proofs.YthilfealloakdaaGreat
