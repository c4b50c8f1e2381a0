
/- TreeJoins. -/
import Derived.Test.YtdfacfpjhnohcaaTrJo
import Derived.Test.YtdfacfpjhnohcaaTrRj
namespace Go.Proofs.Ytdfacfpjhnohcaa
open Go.ChangeShapes Go.WideShapes Go.ChangeAt Go.RowKit
set_option linter.unusedVariables false
set_option maxRecDepth 100000

section
variable {H : Type} {enc : TypeId × Value → H} {w : World} {base : Nat} {held : Bool}
theorem open_hop {fuel : Nat} {cs : List Value} {x : DataW H × List MemPlace} (h : DataW.trod enc Try.prog w base (fun _ => true) held fuel 70 cs = some x) (hL : LightG 70 x.1) : ∃ e : HK, cs = e.cs ∧ True := by
  have hl := len_of Try.underlying70 h
  have hc : Try.prog.cellsOf 70 = 3 := by kernel_rfl
  rw [hc] at hl
  obtain ⟨n0, e0, w0⟩ := flat_at Try.underlying70 h 0 _ rfl 0 rfl .u32 Try.underlying25 (by kernel_rfl)
  obtain ⟨n1, e1, w1⟩ := flat_at Try.underlying70 h 1 _ rfl 1 rfl .u32 Try.underlying25 (by kernel_rfl)
  obtain ⟨m2, y2, a2, -⟩ := field_lightG Try.underlying70 h hL 2 _ rfl 2 1 rfl (by kernel_rfl)
  obtain ⟨n2, e2, _⟩ := DataW.trod_bool Try.underlying4 a2
  match cs, hl with
  | [c0, c1, c2], _ =>
    simp only [List.drop, List.take, List.cons.injEq, and_true] at e0 e1 e2
    subst e0 e1 e2
    exact ⟨⟨n0, n1, n2⟩, rfl, trivial⟩
theorem open_hops {a : Option Addr} {len cap : Nat} {d : DataW H} {p : List MemPlace} (hd : DataW.Trod enc Try.prog w base (fun _ => true) held 46 (.slice a len cap) d p) (hL : LightG 46 d) :
    ∃ l : List HK, RA w (.slice a len cap) l ∧ l.length ≤ 140737488355328 := by
  haveI : Inhabited HK := ⟨HK0⟩
  obtain ⟨fuel, hf⟩ := hd
  have h : DataW.trod enc Try.prog w base (fun _ => true) held fuel 46 [.slice a len cap] = some (d, p) := by simpa [Value.cells] using hf
  obtain ⟨a', cap', ns, e, r, -, hn⟩ := open_row (cs := HK.cs) (k := 3) (by omega) (fun _ => rfl) (P := fun _ => True) Try.underlying46 (of_decide_eq_true (by kernel_rfl)) (by kernel_rfl) (fun h hL => open_hop h hL) h hL
  simp at e
  obtain ⟨rfl, rfl, rfl⟩ := e
  exact ⟨ns, ⟨_, _, rfl, r⟩, hn⟩
end
theorem rj_rises (a b : List HK) : (rj a b).Pairwise HK.lt := pts_rises _ _ (pts_rises _ _ List.Pairwise.nil)
set_option maxHeartbeats 4000000 in
theorem joins17 (va vb : Value) (a b : List HK) (w : World) (A : RA w va a) (B : RA w vb b) (la : a.length ≤ 140737488355328) (lb : b.length ≤ 140737488355328) :
    Calls Try.prog 5 #[va, vb] w fun e w' => e = .returned (.bool true) ∧ Touch (fun _ => False) w w' := by
  obtain ⟨aa, ac, rfl, -⟩ := A.out
  obtain ⟨ba, bc, rfl, -⟩ := B.out
  have l1 : (a.length : Int) ≤ 140737488355328 := by omega
  have l2 : (b.length : Int) ≤ 140737488355328 := by omega
  have hsum : IntKind.i64.wrap ((a.length : Int) + (b.length : Int)) = (a.length : Int) + (b.length : Int) := IntWalk.i64_in _ (by omega)
  have HA : Hid (RA w (.slice aa a.length ac) a) := A
  have HVB : Hid (RA w (.slice ba b.length bc) b) := B
  by_cases hbig : 400 < a.length + b.length
  · have hb1 : (a.length : Int) + (b.length : Int) > 400 := by omega
    have HW : Hid _ := works17
    clear A B la lb hbig HA HVB
    generalize a.length = N at *
    generalize b.length = M at *
    go_enter Try.func5, Try.ntmps5
    go_wp2_with (first | (go_at_call 7; refine (HW.out _).mono ?_; rintro e w1 ⟨rfl, t1⟩))
    go_ret
    exact ⟨rfl, t1⟩
  · have hb1 : ¬ (a.length : Int) + (b.length : Int) > 400 := by omega
    have HL : Hid (a.length + b.length ≤ 400) := by show _ ≤ _; omega
    have H1 : Hid (Calls Try.prog 11 #[.slice aa a.length ac] w fun e w' => ∃ v', e = .returned v' ∧ HB w w' v' a) := hops_any w _ a HA.out (by omega)
    have H2 : Hid (∀ w', Touch (fun _ => False) w w' → Calls Try.prog 11 #[.slice ba b.length bc] w' fun e w'' => ∃ v', e = .returned v' ∧ HB w' w'' v' b) := fun w' t => hops_any w' _ b (HVB.out.keep t) (by have := HL.out; omega)
    have HJ : Hid (∀ w' u v x y, HV3 w' u x → HV3 w' v y → x.length + y.length ≤ 1000000 → (∀ z, z ∈ rj a b ↔ z ∈ x ∨ z ∈ y) → Calls Try.prog 12 #[u, v] w' fun e w'' => ∃ r, e = .returned r ∧ HV3 w'' r (rj a b) ∧ Touch (fun _ => False) w' w'') := fun w' u v x y h1 h2 h3 h4 => join2_any w' u v x y (rj a b) h1 h2 h3 (rj_rises a b) h4
    have HR : Hid (∀ w', Touch (fun _ => False) w w' → Calls Try.prog 14 #[.slice aa a.length ac, .slice ba b.length bc] w' fun e w'' => ∃ r, e = .returned r ∧ HV3 w'' r (rj a b) ∧ Touch (fun _ => False) w' w'') := fun w' t => (rjoin_any w' _ _ a b (HA.out.keep t) (HVB.out.keep t) (by have := HL.out; omega)).mono (fun e w'' ⟨r, h1, h2⟩ => ⟨r, h1, h2.vals, h2.t⟩)
    have HE : Hid (∀ w' u v x, RA w' u x → RA w' v x → x.length ≤ 1000000 → Calls Try.prog 13 #[u, v] w' fun e w'' => e = .returned (.bool true) ∧ Touch (fun _ => False) w' w'') := fun w' u v x h1 h2 h3 => eq_any w' u v x x h1 h2 h3 h3 true (by simp)
    have HW : Hid _ := works17
    have HL1 : Hid (a.length + b.length ≤ 1000000) := by show _ ≤ _; have := HL.out; omega
    have HL2 : Hid (b.length + a.length ≤ 1000000) := by show _ ≤ _; have := HL.out; omega
    have HLR : Hid ((rj a b).length ≤ 1000000) := by show _ ≤ _; have := HL.out; have := rj_length a b; omega
    have HL3 : Hid ((rj a b).length + (rj a b).length ≤ 1000000) := by show _ ≤ _; have := HL.out; have := rj_length a b; omega
    have HLA : Hid (a.length ≤ 1000000) := by show _ ≤ _; have := HL.out; omega
    have HLB : Hid (b.length ≤ 1000000) := by show _ ≤ _; have := HL.out; omega
    have HM : Hid (∀ z, z ∈ rj a b ↔ z ∈ a ∨ z ∈ b) := fun z => mem_rj a b z
    clear A B la lb hbig
    generalize rj a b = c at *
    go_enter Try.func5, Try.ntmps5
    go_wp2_with (first | (go_at_call 11; refine (H1.out).mono ?_; rintro e w1 ⟨u1, rfl, h1⟩; have U1 : Hid (HV3 w1 u1 a) := h1.vals; have G1 : Hid (Touch (fun _ => False) w w1) := h1.t; clear h1 H1))
    go_wp2_with (first | (go_at_call 11; refine (H2.out _ G1.out).mono ?_; rintro e w2 ⟨u2, rfl, h2⟩; have V2 : Hid (HV3 w2 u2 b) := h2.vals; have U2 : Hid (HV3 w2 u1 a) := ValsAt.keep U1.out h2.t; have G2 : Hid (Touch (fun _ => False) w w2) := G1.out.trans h2.t; clear h2 H2))
    go_wp2_with (first | (go_at_call 12; refine (HJ.out w2 u1 u2 a b U2.out V2.out HL1.out (fun z => HM.out z)).mono ?_; rintro e w3 ⟨j, rfl, h3, t3⟩; have G3 : Hid (Touch (fun _ => False) w w3) := G2.out.trans t3; have U3 : Hid (HV3 w3 u1 a) := ValsAt.keep U2.out t3; have V3 : Hid (HV3 w3 u2 b) := ValsAt.keep V2.out t3; have J3 : Hid (HV3 w3 j c) := h3; clear h3; clear t3))
    go_wp2_with (first | (go_at_call 14; refine (HR.out w3 G3.out).mono ?_; rintro e w4 ⟨r4, rfl, h4, t4⟩; have G4 : Hid (Touch (fun _ => False) w w4) := G3.out.trans t4; have U4 : Hid (HV3 w4 u1 a) := ValsAt.keep U3.out t4; have V4 : Hid (HV3 w4 u2 b) := ValsAt.keep V3.out t4; have J4 : Hid (HV3 w4 j c) := ValsAt.keep J3.out t4; have R4 : Hid (HV3 w4 r4 c) := h4; clear h4; clear t4))
    go_wp2_with (first | (go_at_call 13; refine (HE.out w4 _ _ c (HV3.ra J4.out) (HV3.ra R4.out) HLR.out).mono ?_; rintro e w5 ⟨rfl, t5⟩; have G5 : Hid (Touch (fun _ => False) w w5) := G4.out.trans t5; have U5 : Hid (HV3 w5 u1 a) := ValsAt.keep U4.out t5; have V5 : Hid (HV3 w5 u2 b) := ValsAt.keep V4.out t5; have J5 : Hid (HV3 w5 j c) := ValsAt.keep J4.out t5; clear t5))
    go_wp2_with (first | (go_at_call 12; refine (HJ.out w5 u2 u1 b a V5.out U5.out HL2.out (fun z => (HM.out z).trans Or.comm)).mono ?_; rintro e w6 ⟨r6, rfl, h6, t6⟩; have G6 : Hid (Touch (fun _ => False) w w6) := G5.out.trans t6; have U6 : Hid (HV3 w6 u1 a) := ValsAt.keep U5.out t6; have V6 : Hid (HV3 w6 u2 b) := ValsAt.keep V5.out t6; have J6 : Hid (HV3 w6 j c) := ValsAt.keep J5.out t6; have R6 : Hid (HV3 w6 r6 c) := h6; clear h6; clear t6))
    go_wp2_with (first | (go_at_call 14; refine (HR.out w6 G6.out).mono ?_; rintro e w7 ⟨r7, rfl, h7, t7⟩; have G7 : Hid (Touch (fun _ => False) w w7) := G6.out.trans t7; have U7 : Hid (HV3 w7 u1 a) := ValsAt.keep U6.out t7; have V7 : Hid (HV3 w7 u2 b) := ValsAt.keep V6.out t7; have J7 : Hid (HV3 w7 j c) := ValsAt.keep J6.out t7; have R7 : Hid (HV3 w7 r7 c) := h7; clear h7; have K7 : Hid (HV3 w7 r6 c) := ValsAt.keep R6.out t7; clear t7))
    go_wp2_with (first | (go_at_call 13; refine (HE.out w7 _ _ c (HV3.ra K7.out) (HV3.ra R7.out) HLR.out).mono ?_; rintro e w8 ⟨rfl, t8⟩; have G8 : Hid (Touch (fun _ => False) w w8) := G7.out.trans t8; have U8 : Hid (HV3 w8 u1 a) := ValsAt.keep U7.out t8; have V8 : Hid (HV3 w8 u2 b) := ValsAt.keep V7.out t8; have J8 : Hid (HV3 w8 j c) := ValsAt.keep J7.out t8; clear t8))
    go_wp2_with (first | (go_at_call 12; refine (HJ.out w8 j j c c J8.out J8.out HL3.out (fun z => (or_self_iff).symm)).mono ?_; rintro e w9 ⟨r9, rfl, h9, t9⟩; have G9 : Hid (Touch (fun _ => False) w w9) := G8.out.trans t9; have U9 : Hid (HV3 w9 u1 a) := ValsAt.keep U8.out t9; have V9 : Hid (HV3 w9 u2 b) := ValsAt.keep V8.out t9; have J9 : Hid (HV3 w9 j c) := ValsAt.keep J8.out t9; have R9 : Hid (HV3 w9 r9 c) := h9; clear h9; clear t9))
    go_wp2_with (first | (go_at_call 14; refine (HR.out w9 G9.out).mono ?_; rintro e w10 ⟨r10, rfl, h10, t10⟩; have G10 : Hid (Touch (fun _ => False) w w10) := G9.out.trans t10; have U10 : Hid (HV3 w10 u1 a) := ValsAt.keep U9.out t10; have V10 : Hid (HV3 w10 u2 b) := ValsAt.keep V9.out t10; have J10 : Hid (HV3 w10 j c) := ValsAt.keep J9.out t10; have R10 : Hid (HV3 w10 r10 c) := h10; clear h10; have K10 : Hid (HV3 w10 r9 c) := ValsAt.keep R9.out t10; clear t10))
    go_wp2_with (first | (go_at_call 13; refine (HE.out w10 _ _ c (HV3.ra K10.out) (HV3.ra R10.out) HLR.out).mono ?_; rintro e w11 ⟨rfl, t11⟩; have G11 : Hid (Touch (fun _ => False) w w11) := G10.out.trans t11; have U11 : Hid (HV3 w11 u1 a) := ValsAt.keep U10.out t11; have V11 : Hid (HV3 w11 u2 b) := ValsAt.keep V10.out t11; have J11 : Hid (HV3 w11 j c) := ValsAt.keep J10.out t11; clear t11 K10 R10))
    go_wp2_with (first | (go_at_call 13; refine (HE.out w11 _ _ a (HV3.ra U11.out) (HA.out.keep G11.out) HLA.out).mono ?_; rintro e w12 ⟨rfl, t12⟩; have G12 : Hid (Touch (fun _ => False) w w12) := G11.out.trans t12; have U12 : Hid (HV3 w12 u1 a) := ValsAt.keep U11.out t12; have V12 : Hid (HV3 w12 u2 b) := ValsAt.keep V11.out t12; have J12 : Hid (HV3 w12 j c) := ValsAt.keep J11.out t12; clear t12 HLA))
    go_wp2_with (first | (go_at_call 13; refine (HE.out w12 _ _ b (HV3.ra V12.out) (HVB.out.keep G12.out) HLB.out).mono ?_; rintro e w13 ⟨rfl, t13⟩; have G13 : Hid (Touch (fun _ => False) w w13) := G12.out.trans t13; have U13 : Hid (HV3 w13 u1 a) := ValsAt.keep U12.out t13; have V13 : Hid (HV3 w13 u2 b) := ValsAt.keep V12.out t13; have J13 : Hid (HV3 w13 j c) := ValsAt.keep J12.out t13; clear t13))
    go_wp2_with (first | (go_at_call 7; refine (HW.out _).mono ?_; rintro e w14 ⟨rfl, t14⟩))
    go_ret
    exact ⟨rfl, G13.out.trans t14⟩
end Go.Proofs.Ytdfacfpjhnohcaa
