/- Contract: lives of the law of layer 8. -/
import Derived.Test.YthilfealloakdaaAuApiS
import Derived.Lib.SlBytesConst
import Derived.Test.YthilfealloakdaaAuGiv
import Derived.Test.YthilfealloakdaaAuR8
import Derived.Test.YthilfealloakdaaAuR8b
import Derived.Test.YthilfealloakdaaAuR8c
import Derived.Test.YthilfealloakdaaAuChoose
namespace Go.Proofs.Ythilfealloakdaa
open Go.RowKit Go.Shelf
set_option linter.unusedVariables false
set_option maxRecDepth 100000

def ackB : List Int := [2, 5, 0, 24, 0, 0, 0, 1, 0, 0, 0, 0, 253, 225, 0, 0, 0, 0, 0, 0, 0, 0, 0, 0]
def ackS : List Int := [2, 5, 0, 24, 0, 0, 0, 1, 0, 0, 0, 0, 253, 224, 0, 1, 97, 98, 0, 0, 0, 0, 0, 0]
def keyL : AKP := ⟨7, 1, [97, 98], 0, 99, 0, 99⟩
theorem lives_sign : signE ackB [keyL] 5 = 0 ∧ signB ackB [keyL] 5 0 = ackS := by decide +kernel
theorem lives_open : openE ackS [keyL] 5 = 0 ∧ openN ackS [keyL] 5 = 24 ∧ openE ackS [keyL] 100 = 26 := by decide +kernel
theorem keyL_ok : keyL.Ok := ⟨by decide, by decide, by decide, by decide, by decide, by decide, by decide⟩
theorem au_lit (w : World) (l : List Int) (C : Array Value) (hC : C.toList = bytesOf l) (hm : l.length ≤ 1000) : ArgAt (w.alloc (.cells C 5)) (.slice (some ⟨w.heap.size, 0, none⟩) l.length l.length) l :=
  Or.inr ⟨⟨w.heap.size, 0, none⟩, l.length, rfl, Nat.le_refl _, by unfold maxLen; omega, src_new w C 5 0 l (by simpa using hC)⟩
set_option maxHeartbeats 1000000 in
theorem plainAck_any (w : World) : Calls Try.prog 21 #[] w fun e w' => ∃ a c, e = .returned (.slice a 24 c) ∧ ArgAt w' (.slice a 24 c) ackB ∧ Touch (fun _ => False) w w' := by
  go_enter Try.func21, Try.ntmps21
  go_wp2
  go_ret
  exact ⟨_, _, rfl, au_lit w ackB _ rfl (by decide), (Touch.refl _ _).alloc _⟩
theorem lit_ab (w : World) : ArgAt (w.alloc (.cells #[.int .u8 97, .int .u8 98] 5 (2, 3))) (.slice (some ⟨w.heap.size, 0, none⟩) 2 2) [97, 98] := by
  refine Or.inr ⟨⟨w.heap.size, 0, none⟩, 2, rfl, Nat.le_refl _, by simp [maxLen], fun j u hj => ?_⟩
  rw [add_plain, cell_of_row _ w.heap.size (0 + j) #[.int .u8 97, .int .u8 98] 5 (2, 3) (by show (w.heap.push _)[w.heap.size]? = _; simp), Nat.zero_add]
  have e : (#[.int .u8 97, .int .u8 98] : Array Value)[j]? = (bytesOf [97, 98])[j]? := by
    rw [show (#[.int .u8 97, .int .u8 98] : Array Value) = (bytesOf [97, 98]).toArray from rfl, List.getElem?_toArray]
  rw [e]
  exact hj
theorem livesC (w : World) : ChainAt ((w.alloc (.cells #[.int .u8 97, .int .u8 98] 5 (2, 3))).alloc (.cells #[.int .u8 7, .int .u16 1, .slice (some ⟨w.heap.size, 0, none⟩) 2 2, .int .i64 0, .int .i64 99, .int .i64 0, .int .i64 99] 50)) (.slice (some ⟨w.heap.size + 1, 0, none⟩) 1 1) [⟨keyL, some ⟨w.heap.size, 0, none⟩, 2⟩] := by
  refine ⟨⟨rfl, Or.inr ⟨⟨w.heap.size + 1, 0, none⟩, 1, rfl, Nat.le_refl _, by simp [maxLen], fun j u hj => ?_⟩⟩, fun x hx => ?_⟩
  · have r := row_new (w.alloc (.cells #[.int .u8 97, .int .u8 98] 5 (2, 3))) 50 #[.int .u8 7, .int .u16 1, .slice (some ⟨w.heap.size, 0, none⟩) 2 2, .int .i64 0, .int .i64 99, .int .i64 0, .int .i64 99]
    rw [World.size_alloc] at r
    rw [add_plain, Nat.zero_add, r.cell j]
    exact hj
  · simp at hx
    subst hx
    exact ⟨keyL_ok, (lit_ab w).keep ((Touch.refl _ _).alloc _) (fun _ _ h => h)⟩
theorem pureL_one (k : AKP) (a : Option Addr) (c : Nat) : pureL [⟨k, a, c⟩] = [k] := rfl
set_option maxHeartbeats 2000000 in
theorem lives8 (w : World) : Calls Try.prog 6 #[] w fun e w' => e = .returned (.bool true) ∧ Touch (fun _ => False) w w' := by
  have hS : Hid (∀ w' v vk ka, Touch (fun _ => False) w w' → ArgAt w' v ackB → ChainAt w' vk [⟨keyL, ka, 2⟩] → Calls Try.prog 20 #[v, vk, .int .i64 5, .int .u32 0] w' fun e w'' => ∃ u, e = .returned (.tuple #[u, .int .i64 0]) ∧ Buf w' w'' u ackS) := fun w' v vk ka t hv hc => by
    have := asign_any v vk ackB [⟨keyL, ka, 2⟩] 5 0 w' hv (by decide) (by decide) hc (by simp) (by omega)
    rw [pureL_one, lives_sign.1, lives_sign.2] at this
    exact this
  have hO : Hid (∀ w' v vk ka, ArgAt w' v ackS → ChainAt w' vk [⟨keyL, ka, 2⟩] → Calls Try.prog 22 #[v, vk, .int .i64 5] w' fun e w'' => ∃ s, e = .returned (.tuple #[.int .u32 s, .int .i64 24, .int .i64 0]) ∧ Touch (fun _ => False) w' w'') := fun w' v vk ka hv hc => by
    have := aopen_any v vk ackS [⟨keyL, ka, 2⟩] 5 w' hv (by decide) (by decide) hc (by simp)
    rw [pureL_one, lives_open.1, lives_open.2.1] at this
    exact this.mono fun e w'' h => ⟨_, h⟩
  have hP : Hid (∀ w' v vk ka, ArgAt w' v ackS → ChainAt w' vk [⟨keyL, ka, 2⟩] → Calls Try.prog 22 #[v, vk, .int .i64 100] w' fun e w'' => ∃ s n, e = .returned (.tuple #[.int .u32 s, .int .i64 n, .int .i64 26]) ∧ Touch (fun _ => False) w' w'') := fun w' v vk ka hv hc => by
    have := aopen_any v vk ackS [⟨keyL, ka, 2⟩] 100 w' hv (by decide) (by decide) hc (by simp)
    rw [pureL_one, lives_open.2.2] at this
    exact this.mono fun e w'' h => ⟨_, _, h⟩
  have kc := fun (w : World) (C : Array Value) (n c : Nat) => Lib.run_convert_bytes_const (P := Try.prog) w 47 5 C n c Try.underlying47 Try.underlying5
  go_enter Try.func6, Try.ntmps6
  go_wp2_with fail
  have C0 := livesC w
  have T0 : Hid (Touch (fun _ => False) w ((w.alloc (.cells #[.int .u8 97, .int .u8 98] 5 (2, 3))).alloc (.cells #[.int .u8 7, .int .u16 1, .slice (some ⟨w.heap.size, 0, none⟩) 2 2, .int .i64 0, .int .i64 99, .int .i64 0, .int .i64 99] 50))) := ((Touch.refl _ w).alloc _).alloc _
  generalize (w.alloc (.cells #[.int .u8 97, .int .u8 98] 5 (2, 3))).alloc (.cells #[.int .u8 7, .int .u16 1, .slice (some ⟨w.heap.size, 0, none⟩) 2 2, .int .i64 0, .int .i64 99, .int .i64 0, .int .i64 99] 50) = wa at C0 T0 ⊢
  have HC : Hid (∀ w', Touch (fun _ => False) wa w' → ChainAt w' (.slice (some ⟨w.heap.size + 1, 0, none⟩) 1 1) [⟨keyL, some ⟨w.heap.size, 0, none⟩, 2⟩]) := fun w' t => C0.keep t
  clear C0
  refine Calls.mono (plainAck_any wa) ?_
  rintro e w1 ⟨pa, pc, rfl, a1, t1⟩
  have A1 : Hid (ArgAt w1 (.slice pa 24 pc) ackB) := a1
  have T1 : Hid (Touch (fun _ => False) wa w1) := t1
  clear a1 t1
  go_wp2_with fail
  refine Calls.mono (hS.out w1 _ _ _ (T0.out.trans T1.out) A1.out (HC.out w1 T1.out)) ?_
  rintro e w2 ⟨u, rfl, b2⟩
  have T2 : Hid (Touch (fun _ => False) wa w2) := T1.out.trans b2.t
  have AU : Hid (∀ w', Touch (fun _ => False) w2 w' → ArgAt w' u ackS) := fun w' t => (b2.keep t).arg
  obtain ⟨g2, o2, c2, eu, hg⟩ : ∃ g o c, u = .slice (some ⟨g, o, none⟩) 24 c ∧ ∀ j v, (bytesOf ackS)[j]? = some v → w2.cell? ⟨g, o + j, none⟩ = some v := by
    rcases b2.row with ⟨_, h⟩ | ⟨g, o, c, e, _, _, h⟩
    · cases h
    · exact ⟨g, o, c, e, h⟩
  subst eu
  have HG15 : Hid (∀ w', Touch (fun _ => False) w2 w' → w'.cell? ⟨g2, o2 + 15, none⟩ = some (.int .u8 1)) := fun w' t => t.cellN (hg 15 _ rfl)
  have HG16 : Hid (∀ w', Touch (fun _ => False) w2 w' → w'.cell? ⟨g2, o2 + 16, none⟩ = some (.int .u8 97)) := fun w' t => t.cellN (hg 16 _ rfl)
  clear b2 hg A1 T1
  go_wp2_with fail
  refine Calls.mono (hO.out w2 _ _ _ (AU.out w2 (Touch.refl _ _)) (HC.out w2 T2.out)) ?_
  rintro e w3 ⟨s3, rfl, t3⟩
  have T3 : Hid (Touch (fun _ => False) w2 w3) := t3
  clear t3
  go_wp2_with fail
  refine Calls.mono (hP.out w3 _ _ _ (AU.out w3 T3.out) (HC.out w3 (T2.out.trans T3.out))) ?_
  rintro e w4 ⟨s4, n4, rfl, t4⟩
  have T4 : Hid (Touch (fun _ => False) w2 w4) := T3.out.trans t4
  have c15 := HG15.out w4 T4.out
  have c16 := HG16.out w4 T4.out
  clear t4 T3
  go_wp2_with fail
  go_ret
  exact ⟨rfl, T0.out.trans (T2.out.trans T4.out)⟩
end Go.Proofs.Ythilfealloakdaa

namespace Go.Proofs.Ythilfealloakdaa
open Go.RowKit
set_option linter.unusedVariables false
set_option maxRecDepth 100000

set_option maxHeartbeats 1000000 in
theorem checks8_any (v : Value) (ks : List KE) (now : Int) (w : World) (hc : ChainAt w v ks) (hz : ∀ x ∈ ks, x.p.sec.length ≤ 140737488355328) (hkl : ks.length ≤ 140737488355328) :
    Calls Try.prog 3 #[v, .int .i64 now] w fun e w' => e = .returned (.bool true) ∧ Touch (fun _ => False) w w' := by
  have HH := heavy_any (.slice none 0 0) v 0 ks w none 0 rfl (by omega) hc hz hkl
  have HC : Hid (∀ w', Touch (fun _ => False) w w' → ChainAt w' v ks) := fun w' t => hc.keep t
  have HG : Hid (hsum ks ≤ 131072 → Calls Try.prog 7 #[v] w fun e w' => ∃ u ls, e = .returned u ∧ Given w w' u ks ls) := fun h => given_any v ks w hc h
  have HLN : Hid (ks.length ≤ hsum ks) := hsum_len ks
  obtain ⟨va, vc, rfl, -⟩ := ValsAt.form hc.vals
  clear hc hz hkl
  go_enter Try.func3, Try.ntmps3
  go_wp2_with fail
  refine Calls.mono HH ?_
  rintro e w1 ⟨⟨B, rfl, hB⟩, rfl⟩
  clear HH
  cases B
  · have hs : hsum ks ≤ 131072 := by have := hB rfl; omega
    have hl : ks.length ≤ 1000000 := by have := HLN.out; omega
    have HG' := HG.out hs
    clear hB hs HG HLN
    go_wp2_with fail
    refine Calls.mono HG' ?_
    rintro e w2 ⟨u, ls, rfl, gv⟩
    obtain ⟨sa, sc, es⟩ := gv.buf.form
    subst es
    have HLL : Hid (ls.length = ks.length) := gv.len
    have GV : Hid (∀ w', Touch (fun _ => False) w2 w' → Given w w' (.slice sa ls.length sc) ks ls) := fun w' t => gv.keep t
    have T2 : Hid (Touch (fun _ => False) w w2) := gv.buf.t
    have HS : Hid (pureL ls = pureL ks) := gv.same
    have HK := achk_any _ ls w2 gv.chain
    rw [HS.out] at HK
    clear gv HG'
    go_wp2_with fail
    refine Calls.mono HK ?_
    rintro e w3 ⟨rfl, t3⟩
    clear HK
    have HR := rcheck_any _ ks w3 (HC.out _ (T2.out.trans t3))
    have T3 : Hid (Touch (fun _ => False) w2 w3) := t3
    clear t3
    go_wp2_with fail
    refine Calls.mono HR ?_
    rintro e w4 ⟨rfl, t4⟩
    clear HR
    have T4 : Hid (Touch (fun _ => False) w2 w4) := T3.out.trans t4
    have hle : ls.length ≤ 1000000 := by have := HLL.out; omega
    have HC1 : Hid (∀ w', Touch (fun _ => False) w4 w' → Calls Try.prog 10 #[.slice sa ls.length sc, .int .i64 now] w' fun e w'' => e = .returned (.int .i64 (chooseI (pureL ks) now)) ∧ Touch (fun _ => False) w' w'') := fun w' t => by
      have := choose_any _ ls now w' (GV.out w' (T4.out.trans t)).chain hle
      rw [HS.out] at this
      exact this
    have HC2 : Hid (∀ w', Touch (fun _ => False) w4 w' → Calls Try.prog 11 #[.slice va ks.length vc, .int .i64 now] w' fun e w'' => e = .returned (.int .i64 (chooseI (pureL ks) now)) ∧ Touch (fun _ => False) w' w'') := fun w' t => rchoose_any _ ks now w' (HC.out w' ((T2.out.trans T4.out).trans t)) hl
    have HC3 : Hid (∀ w', Touch (fun _ => False) w4 w' → Calls Try.prog 12 #[.slice sa ls.length sc, .slice va ks.length vc] w' fun e w'' => e = .returned (.bool true) ∧ Touch (fun _ => False) w' w'') := fun w' t => by
      have g := GV.out w' (T4.out.trans t)
      exact stays_any _ _ ks ls w.heap.size w' g.chain (HC.out w' ((T2.out.trans T4.out).trans t)) HS.out g.wide g.big hl
    have HC4 : Hid (∀ w', Touch (fun _ => False) w4 w' → Calls Try.prog 6 #[] w' fun e w'' => e = .returned (.bool true) ∧ Touch (fun _ => False) w' w'') := fun w' _ => lives8 w'
    have TT : Hid (Touch (fun _ => False) w w4) := T2.out.trans T4.out
    clear t4 T2 T3 T4 HS GV HC hle
    generalize achE (pureL ks) = EE at *
    generalize achI (pureL ks) = II at *
    generalize chooseI (pureL ks) now = CC at *
    go_wp2_with fail
    refine Calls.mono (HC1.out _ (Touch.refl _ _)) ?_
    rintro e w5 ⟨rfl, t5⟩
    go_wp2_with fail
    refine Calls.mono (HC2.out _ t5) ?_
    rintro e w6 ⟨rfl, t6⟩
    go_wp2_with fail
    refine Calls.mono (HC3.out _ (t5.trans t6)) ?_
    rintro e w7 ⟨rfl, t7⟩
    go_wp2_with fail
    refine Calls.mono (lives8 _) ?_
    rintro e w8 ⟨rfl, t8⟩
    go_wp2_with fail
    go_ret
    exact ⟨rfl, TT.out.trans (t5.trans (t6.trans (t7.trans t8)))⟩
  · go_wp2_with fail
    refine Calls.mono (lives8 _) ?_
    rintro e w7 ⟨rfl, t7⟩
    go_wp2_with fail
    go_ret
    exact ⟨rfl, t7⟩
end Go.Proofs.Ythilfealloakdaa
