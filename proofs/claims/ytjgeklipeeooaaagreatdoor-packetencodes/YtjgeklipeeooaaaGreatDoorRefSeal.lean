/- The document's side of stage 6: Head. -/
import Derived.Test.YtjgeklipeeooaaaGreatDoorRefFour
import Derived.Test.YtjgeklipeeooaaaGreatDoorStaOut
import Derived.Test.YtjgeklipeeooaaaGreatDoorPkAck
import Derived.Deep.LoopGhost
import Derived.Test.YtjgeklipeeooaaaGreatDoorStWideS
import Derived.Test.YtjgeklipeeooaaaGreatDoorStRd2
import Derived.Test.YtjgeklipeeooaaaGreatDoorCutB
import Derived.Deep.DeepCutAuto
namespace Go.Proofs.YtjgeklipeeooaaaGreatDoor
open Go.RowKit
set_option linter.unusedVariables false
set_option maxRecDepth 100000

section
variable {ops : Array Oper} {rest : List Oper} {o : Oper} {a : Act} {Q : Exit → Act → World → Prop} {w : World}
/-- append(p, y, z), the two in a new block of their own. -/
theorem app_two (hgd : o.guard = none) (s x : Operand) (ho : o.op = .call { callee := .builtin .append, args := #[s, x], argTypes := #[40, 40] })
    (w0 : World) (v : Value) (l : List Int) (hs : a.eval s = v) (hb : Buf w0 w v l) (y z : Int) (hx : a.eval x = .slice (some ⟨w.heap.size, 0, none⟩) 2 2) (hl : l.length + 2 ≤ 1099511627776)
    (h : ∀ v' w', Buf w0 w' v' (l ++ [y, z]) → wpList Tryz.prog ops Q rest (a.put o.dst v') w') : wpList Tryz.prog ops Q (o :: rest) a (w.alloc (.cells #[.int .u8 y, .int .u8 z] 5)) :=
  app_arg hgd s x ho w0 v l hs (hb.keep ((Touch.refl _ w).alloc _)) _ [y, z] hx (Or.inr ⟨_, 2, rfl, by simp, by simp [maxLen], fun j u hj => by
    match j, hj with
    | 0, hj => simp [bytesOf] at hj; subst hj; simp [go_sem, Addr.add]
    | 1, hj => simp [bytesOf] at hj; subst hj; simp [go_sem, Addr.add]⟩) (by simp; omega) h
end

set_option maxHeartbeats 1000000 in
theorem dheadB_any (h : HV) (ok : h.All) (w : World) : Calls Tryz.prog 135 #[h.v] w fun e w' => ∃ v, e = .returned v ∧ Buf w w' v (headB h) := by
  have OK : Hid h.All := ok
  clear ok
  show Calls Tryz.prog 135 #[.agg #[.int .u16 h.age, .int .u8 h.opts, .int .u8 h.typ, .int .u32 h.id, .int .u32 h.adv, .int .i32 h.seq, .int .u16 h.sum, .int .u16 h.len]] w _
  go_enter Tryz.func135, Tryz.ntmps135
  go_wp2_with fail
  have K0 : Hid (Hd (w.alloc (.cells #[.int .u16 h.age, .int .u8 h.opts, .int .u8 h.typ, .int .u32 h.id, .int .u32 h.adv, .int .i32 h.seq, .int .u16 h.sum, .int .u16 h.len] 93)) w.heap.size h) := Hd.new w h _
  have T0 : Hid (Touch (fun _ => False) w (w.alloc (.cells #[.int .u16 h.age, .int .u8 h.opts, .int .u8 h.typ, .int .u32 h.id, .int .u32 h.adv, .int .i32 h.seq, .int .u16 h.sum, .int .u16 h.len] 93))) := (Touch.refl _ w).alloc _
  generalize w.alloc (.cells #[.int .u16 h.age, .int .u8 h.opts, .int .u8 h.typ, .int .u32 h.id, .int .u32 h.adv, .int .i32 h.seq, .int .u16 h.sum, .int .u16 h.len] 93) = wa at K0 T0 ⊢
  generalize w.heap.size = g at K0 ⊢
  refine Calls.mono (rtwo_any h.age _ OK.out.a.1 OK.out.a.2) ?_
  rintro e w1 ⟨v1, rfl, b1⟩
  have B1 : Hid (Buf wa w1 v1 (numBytes 2 h.age)) := b1
  obtain ⟨c0, c1, c2, c3, c4, c5, c6, c7⟩ := K0.out.keep b1.t
  clear b1
  go_wp2_with (at_builtin; refine app_two rfl (.tmp 7) (.tmp 12) rfl wa _ _ rfl B1.out _ _ rfl (by simp [numBytes]) ?_)
  intro v2 w2 b2
  clear c0 c1 c2 c3 c4 c5 c6 c7 B1
  have B2 : Hid (Buf wa w2 v2 (numBytes 2 h.age ++ [h.opts, h.typ])) := b2
  obtain ⟨c0, c1, c2, c3, c4, c5, c6, c7⟩ := K0.out.keep b2.t
  clear b2
  go_wp2_with fail
  refine Calls.mono (rfour_any h.id _ OK.out.i.1 OK.out.i.2) ?_
  rintro e y2 ⟨u2v, rfl, d2⟩
  clear c0 c1 c2 c3 c4 c5 c6 c7
  have D2 : Hid (ArgAt y2 u2v (numBytes 4 h.id)) := d2.arg
  have E2 : Hid (Buf wa y2 v2 (numBytes 2 h.age ++ [h.opts, h.typ])) := B2.out.keep d2.t
  clear d2 B2
  go_wp2_with (at_builtin; refine app_arg rfl (.tmp 14) (.tmp 17) rfl wa _ _ rfl E2.out _ _ rfl D2.out (by simp [numBytes]) ?_)
  intro v3 w3 b3
  clear D2 E2
  have B3 : Hid (Buf wa w3 v3 (numBytes 2 h.age ++ [h.opts, h.typ] ++ numBytes 4 h.id)) := b3
  obtain ⟨c0, c1, c2, c3, c4, c5, c6, c7⟩ := K0.out.keep b3.t
  clear b3
  go_wp2_with fail
  refine Calls.mono (rfour_any h.adv _ OK.out.v.1 OK.out.v.2) ?_
  rintro e y3 ⟨u3v, rfl, d3⟩
  clear c0 c1 c2 c3 c4 c5 c6 c7
  have D3 : Hid (ArgAt y3 u3v (numBytes 4 h.adv)) := d3.arg
  have E3 : Hid (Buf wa y3 v3 (numBytes 2 h.age ++ [h.opts, h.typ] ++ numBytes 4 h.id)) := B3.out.keep d3.t
  clear d3 B3
  go_wp2_with (at_builtin; refine app_arg rfl (.tmp 19) (.tmp 22) rfl wa _ _ rfl E3.out _ _ rfl D3.out (by simp [numBytes]) ?_)
  intro v4 w4 b4
  clear D3 E3
  have B4 : Hid (Buf wa w4 v4 (numBytes 2 h.age ++ [h.opts, h.typ] ++ numBytes 4 h.id ++ numBytes 4 h.adv)) := b4
  obtain ⟨c0, c1, c2, c3, c4, c5, c6, c7⟩ := K0.out.keep b4.t
  clear b4
  go_wp2_with fail
  refine Calls.mono (rfour_any (h.seq % 4294967296) _ (by omega) (by omega)) ?_
  rintro e y4 ⟨u4v, rfl, d4⟩
  clear c0 c1 c2 c3 c4 c5 c6 c7
  have D4 : Hid (ArgAt y4 u4v (numBytes 4 (h.seq % 4294967296))) := d4.arg
  have E4 : Hid (Buf wa y4 v4 (numBytes 2 h.age ++ [h.opts, h.typ] ++ numBytes 4 h.id ++ numBytes 4 h.adv)) := B4.out.keep d4.t
  clear d4 B4
  go_wp2_with (at_builtin; refine app_arg rfl (.tmp 24) (.tmp 28) rfl wa _ _ rfl E4.out _ _ rfl D4.out (by simp [numBytes]) ?_)
  intro v5 w5 b5
  clear D4 E4
  have B5 : Hid (Buf wa w5 v5 (numBytes 2 h.age ++ [h.opts, h.typ] ++ numBytes 4 h.id ++ numBytes 4 h.adv ++ numBytes 4 (h.seq % 4294967296))) := b5
  obtain ⟨c0, c1, c2, c3, c4, c5, c6, c7⟩ := K0.out.keep b5.t
  clear b5
  go_wp2_with fail
  refine Calls.mono (rtwo_any h.sum _ OK.out.m.1 OK.out.m.2) ?_
  rintro e y5 ⟨u5v, rfl, d5⟩
  clear c0 c1 c2 c3 c4 c5 c6 c7
  have D5 : Hid (ArgAt y5 u5v (numBytes 2 h.sum)) := d5.arg
  have E5 : Hid (Buf wa y5 v5 (numBytes 2 h.age ++ [h.opts, h.typ] ++ numBytes 4 h.id ++ numBytes 4 h.adv ++ numBytes 4 (h.seq % 4294967296))) := B5.out.keep d5.t
  clear d5 B5
  go_wp2_with (at_builtin; refine app_arg rfl (.tmp 30) (.tmp 33) rfl wa _ _ rfl E5.out _ _ rfl D5.out (by simp [numBytes]) ?_)
  intro v6 w6 b6
  clear D5 E5
  have B6 : Hid (Buf wa w6 v6 (numBytes 2 h.age ++ [h.opts, h.typ] ++ numBytes 4 h.id ++ numBytes 4 h.adv ++ numBytes 4 (h.seq % 4294967296) ++ numBytes 2 h.sum)) := b6
  obtain ⟨c0, c1, c2, c3, c4, c5, c6, c7⟩ := K0.out.keep b6.t
  clear b6
  go_wp2_with fail
  refine Calls.mono (rtwo_any h.len _ OK.out.l.1 OK.out.l.2) ?_
  rintro e y6 ⟨u6v, rfl, d6⟩
  clear c0 c1 c2 c3 c4 c5 c6 c7
  have D6 : Hid (ArgAt y6 u6v (numBytes 2 h.len)) := d6.arg
  have E6 : Hid (Buf wa y6 v6 (numBytes 2 h.age ++ [h.opts, h.typ] ++ numBytes 4 h.id ++ numBytes 4 h.adv ++ numBytes 4 (h.seq % 4294967296) ++ numBytes 2 h.sum)) := B6.out.keep d6.t
  clear d6 B6
  go_wp2_with (at_builtin; refine app_arg rfl (.tmp 35) (.tmp 38) rfl wa _ _ rfl E6.out _ _ rfl D6.out (by simp [numBytes]) ?_)
  intro v7 w7 b7
  clear D6 E6
  have B : Hid (Buf wa w7 v7 (headB h)) := b7
  clear b7
  go_wp2_with fail
  go_ret
  exact ⟨_, rfl, B.out.back T0.out⟩
end Go.Proofs.YtjgeklipeeooaaaGreatDoor

namespace Go.Proofs.YtjgeklipeeooaaaGreatDoor
open Go.RowKit
set_option linter.unusedVariables false
set_option maxRecDepth 100000

theorem take_snoc7 {α : Type} {l : List α} {j : Nat} {x : α} (h : l[j]? = some x) : l.take (j + 1) = l.take j ++ [x] := by rw [List.take_add_one, h]; rfl
theorem headsB_take {l : List HV} {j : Nat} {x : HV} (h : l[j]? = some x) : headsB (l.take (j + 1)) = headsB (l.take j) ++ headB x := by rw [take_snoc7 h]; simp [headsB]
set_option maxHeartbeats 2000000 in
theorem dheads7 (v : Value) (l : List HV) (w : World) (hv : HeadsAt w v l) (ok : ∀ h ∈ l, h.All) (hl : l.length ≤ 1000000) :
    Calls Tryz.prog 101 #[v] w fun e w' => ∃ u, e = .returned u ∧ Buf w w' u (headsB l) := by
  obtain ⟨va, vc, rfl, -⟩ := ValsAt.form hv
  have HVs : Hid (∀ w', Touch (fun _ => False) w w' → HeadsAt w' (.slice va l.length vc) l) := fun w' t => ValsAt.keep hv t
  have OK : Hid (∀ h ∈ l, h.All) := ok
  have REL : Hid (Buf w w (.slice none 0 0) (headsB (l.take 0))) := Buf.nil (Touch.refl _ _)
  clear hv ok
  go_enter Tryz.func101, Tryz.ntmps101
  go_wp2_with fail
  go_loopg [3, 4] l.length (fun gg acc i wr => ∃ j : Nat, j ≤ l.length ∧ l.length - j ≤ gg ∧ i = .int .i64 (j : Int) ∧ Hid (Buf w wr acc (headsB (l.take j))))
  case atStart => exact ⟨0, Nat.zero_le _, by omega, rfl, REL⟩
  case round =>
    clear REL
    obtain ⟨j, hj, hg, rfl, B2⟩ := hrel
    rcases Nat.lt_or_ge j l.length with hlt | hge
    · have hlt' : (j : Int) < (l.length : Int) := by omega
      have hk0 : (0 : Int) ≤ (j : Int) := by omega
      obtain ⟨x, hx⟩ : ∃ x, l[j]? = some x := ⟨l[j], List.getElem?_eq_getElem _⟩
      obtain ⟨gr, off, cc, e, _, _, h3⟩ := ValsAt.cells (HVs.out wr B2.out.t) (by omega) (by omega)
      cases e
      have h4 : ∀ i u, x.cells[i]? = some u → wr.cell? ⟨gr, off + (j * 8 + i), none⟩ = some u := fun i u hu => h3 _ _ (by rw [headsC_at l j i x hx (List.getElem?_eq_some_iff.mp hu).1]; exact hu)
      have c0 : wr.cell? ⟨gr, off + j * 8, none⟩ = some (.int .u16 x.age) := by exact h4 0 _ rfl
      have c1 : wr.cell? ⟨gr, off + j * 8 + 1, none⟩ = some (.int .u8 x.opts) := by rw [Nat.add_assoc]; exact h4 1 _ rfl
      have c2 : wr.cell? ⟨gr, off + j * 8 + 2, none⟩ = some (.int .u8 x.typ) := by rw [Nat.add_assoc]; exact h4 2 _ rfl
      have c3 : wr.cell? ⟨gr, off + j * 8 + 3, none⟩ = some (.int .u32 x.id) := by rw [Nat.add_assoc]; exact h4 3 _ rfl
      have c4 : wr.cell? ⟨gr, off + j * 8 + 4, none⟩ = some (.int .u32 x.adv) := by rw [Nat.add_assoc]; exact h4 4 _ rfl
      have c5 : wr.cell? ⟨gr, off + j * 8 + 5, none⟩ = some (.int .i32 x.seq) := by rw [Nat.add_assoc]; exact h4 5 _ rfl
      have c6 : wr.cell? ⟨gr, off + j * 8 + 6, none⟩ = some (.int .u16 x.sum) := by rw [Nat.add_assoc]; exact h4 6 _ rfl
      have c7 : wr.cell? ⟨gr, off + j * 8 + 7, none⟩ = some (.int .u16 x.len) := by rw [Nat.add_assoc]; exact h4 7 _ rfl
      have HX : Hid (headsB (l.take (j + 1)) = headsB (l.take j) ++ headB x) := headsB_take hx
      have H1 := dheadB_any x (OK.out x (List.mem_of_getElem? hx)) wr
      unfold HV.v at H1
      have hkw : wrap64 ((j : Int) + 1) = (j : Int) + 1 := by unfold wrap64; omega
      have hln : Hid ((headsB (l.take j)).length + 20 ≤ 1099511627776) := by show _ ≤ _; rw [length_headsB]; simp; omega
      clear h3 h4 hx
      go_wp2_with fail
      refine Calls.mono H1 ?_
      rintro e y2 ⟨uv, rfl, d2⟩
      have D2 : Hid (ArgAt y2 uv (headB x)) := d2.arg
      have E2 : Hid (Buf w y2 _ (headsB (l.take j))) := B2.out.keep d2.t
      clear d2 B2 H1 c0 c1 c2 c3 c4 c5 c6 c7
      go_wp2_with (at_builtin; refine app_arg rfl (.tmp 11) (.tmp 16) rfl w _ _ rfl E2.out _ _ rfl D2.out (by have := hln.out; rw [length_headB]; omega) ?_)
      intro v3 w3 b3
      have B3 : Hid (Buf w w3 v3 (headsB (l.take (j + 1)))) := by show Buf _ _ _ _; rw [HX.out]; exact b3
      clear b3 D2 E2 hln HX
      go_wp2_with fail
      go_roundg (l.length - (j + 1))
      case measure => omega
      case rel => exact ⟨j + 1, by omega, by omega, by go_num, B3⟩
    · obtain rfl : j = l.length := by omega
      have hlt' : ¬ (l.length : Int) < (l.length : Int) := by omega
      rw [List.take_length] at B2
      go_wp2_with fail
      go_ret
      exact ⟨_, rfl, B2.out⟩
end Go.Proofs.YtjgeklipeeooaaaGreatDoor

namespace Go.Proofs.YtjgeklipeeooaaaGreatDoor
open Go.RowKit
set_option linter.unusedVariables false
set_option maxRecDepth 100000

theorem take_next {l : List Int} {j : Nat} (h : j < l.length) : l.take (j + 1) = l.take j ++ [l.getD j 0] := by
  rw [List.take_add_one, List.getElem?_eq_getElem h]
  simp [List.getD, h]
theorem getD_byte {l : List Int} (h : ∀ x ∈ l, 0 ≤ x ∧ x < 256) (j : Nat) (hj : j < l.length) : 0 ≤ l.getD j 0 ∧ l.getD j 0 < 256 := h _ (by simp [List.getD, hj])
end Go.Proofs.YtjgeklipeeooaaaGreatDoor

namespace Go.Proofs.YtjgeklipeeooaaaGreatDoor
open Go.RowKit
set_option linter.unusedVariables false
set_option maxRecDepth 100000

/-- What Sums reads at a place. -/
structure ZAt (rs Z : List Int) (a : Int) : Prop where
  len : Z.length = rs.length
  out : ∀ j : Nat, j < rs.length → 0 ≤ a → ((j : Int) = a ∨ (j : Int) = a + 1) → Z.getD j 0 = 0
  same : ∀ j : Nat, j < rs.length → (0 ≤ a → (j : Int) ≠ a ∧ (j : Int) ≠ a + 1) → Z.getD j 0 = rs.getD j 0
theorem ZAt.all (rs : List Int) : ZAt rs rs (-1) := ⟨rfl, fun _ _ h => by omega, fun _ _ _ => rfl⟩
theorem ZAt.laid (rs : List Int) (a : Nat) (h : a + 2 ≤ rs.length) : ZAt rs (laid rs a 0 0) a := by
  refine ⟨length_laid _ _ _ _, fun j hj h0 e => ?_, fun j hj e => ?_⟩
  · unfold YtjgeklipeeooaaaGreatDoor.laid
    rcases e with e | e
    · obtain rfl : j = a := by omega
      rw [getD_set_ne _ _ _ _ (by omega), getD_set_eq _ _ _ (by omega)]
    · obtain rfl : j = a + 1 := by omega
      rw [getD_set_eq _ _ _ (by simp; omega)]
  · have e := e (by omega)
    unfold YtjgeklipeeooaaaGreatDoor.laid
    rw [getD_set_ne _ _ _ _ (by omega), getD_set_ne _ _ _ _ (by omega)]

end Go.Proofs.YtjgeklipeeooaaaGreatDoor

namespace Go.Proofs.YtjgeklipeeooaaaGreatDoor
open Go.RowKit
set_option linter.unusedVariables false
set_option maxRecDepth 100000

set_option maxHeartbeats 1000000 in
theorem rbytes_any (h : HV) (ok : h.All) (v : Value) (rs : List Int) (w : World) (hv : ArgAt w v rs) (hl : rs.length ≤ 131072) :
    Calls Tryz.prog 102 #[h.sv v] w fun e w' => ∃ u, e = .returned u ∧ Buf w w' u (headB h ++ rs) := by
  have OK : Hid h.All := ok
  have HV : Hid (ArgAt w v rs) := hv
  clear ok hv
  show Calls Tryz.prog 102 #[.agg #[.int .u16 h.age, .int .u8 h.opts, .int .u8 h.typ, .int .u32 h.id, .int .u32 h.adv, .int .i32 h.seq, .int .u16 h.sum, .int .u16 h.len, v]] w _
  go_enter Tryz.func102, Tryz.ntmps102
  go_upto_region 1 with fail
  have K0 : Hid (Sd (w.alloc (.cells #[.int .u16 h.age, .int .u8 h.opts, .int .u8 h.typ, .int .u32 h.id, .int .u32 h.adv, .int .i32 h.seq, .int .u16 h.sum, .int .u16 h.len, v] 95)) w.heap.size h v) := Sd.new w h v _
  have T0 : Hid (Touch (fun _ => False) w (w.alloc (.cells #[.int .u16 h.age, .int .u8 h.opts, .int .u8 h.typ, .int .u32 h.id, .int .u32 h.adv, .int .i32 h.seq, .int .u16 h.sum, .int .u16 h.len, v] 95))) := (Touch.refl _ w).alloc _
  generalize w.alloc (.cells #[.int .u16 h.age, .int .u8 h.opts, .int .u8 h.typ, .int .u32 h.id, .int .u32 h.adv, .int .i32 h.seq, .int .u16 h.sum, .int .u16 h.len, v] 95) = wa at K0 T0 ⊢
  generalize w.heap.size = g at K0 ⊢
  obtain ⟨⟨c0, c1, c2, c3, c4, c5, c6, c7⟩, c8⟩ := K0.out
  go_wp2_with fail
  refine Calls.mono (dheadB_any h OK.out _) ?_
  rintro e w1 ⟨v1, rfl, b1⟩
  clear c0 c1 c2 c3 c4 c5 c6 c7 c8
  have B1 : Hid (Buf wa w1 v1 (headB h)) := b1
  have A1 : Hid (ArgAt w1 v rs) := HV.out.keepN (T0.out.trans b1.t)
  obtain ⟨⟨c0, c1, c2, c3, c4, c5, c6, c7⟩, c8⟩ := K0.out.keep b1.t
  clear b1
  go_wp2_with (at_builtin; refine app_arg rfl (.tmp 7) (.tmp 9) rfl wa _ _ rfl B1.out _ _ rfl A1.out (by rw [length_headB]; omega) ?_)
  intro v2 w2 b2
  have B2 : Hid (Buf wa w2 v2 (headB h ++ rs)) := b2
  clear b2 B1 A1 c0 c1 c2 c3 c4 c5 c6 c7 c8
  go_wp2_with fail
  go_ret
  exact ⟨_, rfl, B2.out.back T0.out⟩

end Go.Proofs.YtjgeklipeeooaaaGreatDoor
