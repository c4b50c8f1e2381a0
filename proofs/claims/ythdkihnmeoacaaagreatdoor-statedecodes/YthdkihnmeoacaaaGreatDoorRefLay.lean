/- The document's side of stage 6: Head. -/
import Derived.Test.YthdkihnmeoacaaaGreatDoorStaOut
namespace Go.Proofs.YthdkihnmeoacaaaGreatDoor
open Go.RowKit
set_option linter.unusedVariables false
set_option maxRecDepth 100000

section
variable {ops : Array Oper} {rest : List Oper} {o : Oper} {a : Act} {Q : Exit → Act → World → Prop} {w : World}
/-- append(p, y, z), the two in a new block of their own. -/
theorem app_two (hgd : o.guard = none) (s x : Operand) (ho : o.op = .call { callee := .builtin .append, args := #[s, x], argTypes := #[28, 28] })
    (w0 : World) (v : Value) (l : List Int) (hs : a.eval s = v) (hb : Buf w0 w v l) (y z : Int) (hx : a.eval x = .slice (some ⟨w.heap.size, 0, none⟩) 2 2) (hl : l.length + 2 ≤ 1099511627776)
    (h : ∀ v' w', Buf w0 w' v' (l ++ [y, z]) → wpList Tryz.prog ops Q rest (a.put o.dst v') w') : wpList Tryz.prog ops Q (o :: rest) a (w.alloc (.cells #[.int .u8 y, .int .u8 z] 5)) :=
  app_arg hgd s x ho w0 v l hs (hb.keep ((Touch.refl _ w).alloc _)) _ [y, z] hx (Or.inr ⟨_, 2, rfl, by simp, by simp [maxLen], fun j u hj => by
    match j, hj with
    | 0, hj => simp [bytesOf] at hj; subst hj; simp [go_sem, Addr.add]
    | 1, hj => simp [bytesOf] at hj; subst hj; simp [go_sem, Addr.add]⟩) (by simp; omega) h
end

set_option maxHeartbeats 1000000 in
theorem dheadB_any (h : HV) (ok : h.All) (w : World) : Calls Tryz.prog 30 #[h.v] w fun e w' => ∃ v, e = .returned v ∧ Buf w w' v (headB h) := by
  have OK : Hid h.All := ok
  clear ok
  show Calls Tryz.prog 30 #[.agg #[.int .u16 h.age, .int .u8 h.opts, .int .u8 h.typ, .int .u32 h.id, .int .u32 h.adv, .int .i32 h.seq, .int .u16 h.sum, .int .u16 h.len]] w _
  go_enter Tryz.func30, Tryz.ntmps30
  go_wp2_with fail
  have K0 : Hid (Hd (w.alloc (.cells #[.int .u16 h.age, .int .u8 h.opts, .int .u8 h.typ, .int .u32 h.id, .int .u32 h.adv, .int .i32 h.seq, .int .u16 h.sum, .int .u16 h.len] 25)) w.heap.size h) := Hd.new w h _
  have T0 : Hid (Touch (fun _ => False) w (w.alloc (.cells #[.int .u16 h.age, .int .u8 h.opts, .int .u8 h.typ, .int .u32 h.id, .int .u32 h.adv, .int .i32 h.seq, .int .u16 h.sum, .int .u16 h.len] 25))) := (Touch.refl _ w).alloc _
  generalize w.alloc (.cells #[.int .u16 h.age, .int .u8 h.opts, .int .u8 h.typ, .int .u32 h.id, .int .u32 h.adv, .int .i32 h.seq, .int .u16 h.sum, .int .u16 h.len] 25) = wa at K0 T0 ⊢
  generalize w.heap.size = g at K0 ⊢
  refine Calls.mono (rtwo_any h.age _ OK.out.a.1 OK.out.a.2) ?_
  rintro e w1 ⟨v1, rfl, b1⟩
  have B1 : Hid (Buf wa w1 v1 (numBytes 2 h.age)) := b1
  obtain ⟨c0, c1, c2, c3, c4, c5, c6, c7⟩ := K0.out.keep b1.t
  clear b1
  go_wp2_with (at_builtin; refine app_two rfl (.tmp 7) (.tmp 12) rfl wa _ _ rfl B1.out _ _ rfl (by simp [numBytes]) ?_)
  intro v2 w2 b2
  clear c0 c1 c2 c3 c4 c5 c6 c7 B1
  have B2 : Hid (Buf wa w2 v2 (numBytes 2 h.age ++ [h.opts, h.typ])) := b2
  obtain ⟨c0, c1, c2, c3, c4, c5, c6, c7⟩ := K0.out.keep b2.t
  clear b2
  go_wp2_with fail
  refine Calls.mono (rfour_any h.id _ OK.out.i.1 OK.out.i.2) ?_
  rintro e y2 ⟨u2v, rfl, d2⟩
  clear c0 c1 c2 c3 c4 c5 c6 c7
  have D2 : Hid (ArgAt y2 u2v (numBytes 4 h.id)) := d2.arg
  have E2 : Hid (Buf wa y2 v2 (numBytes 2 h.age ++ [h.opts, h.typ])) := B2.out.keep d2.t
  clear d2 B2
  go_wp2_with (at_builtin; refine app_arg rfl (.tmp 14) (.tmp 17) rfl wa _ _ rfl E2.out _ _ rfl D2.out (by simp [numBytes]) ?_)
  intro v3 w3 b3
  clear D2 E2
  have B3 : Hid (Buf wa w3 v3 (numBytes 2 h.age ++ [h.opts, h.typ] ++ numBytes 4 h.id)) := b3
  obtain ⟨c0, c1, c2, c3, c4, c5, c6, c7⟩ := K0.out.keep b3.t
  clear b3
  go_wp2_with fail
  refine Calls.mono (rfour_any h.adv _ OK.out.v.1 OK.out.v.2) ?_
  rintro e y3 ⟨u3v, rfl, d3⟩
  clear c0 c1 c2 c3 c4 c5 c6 c7
  have D3 : Hid (ArgAt y3 u3v (numBytes 4 h.adv)) := d3.arg
  have E3 : Hid (Buf wa y3 v3 (numBytes 2 h.age ++ [h.opts, h.typ] ++ numBytes 4 h.id)) := B3.out.keep d3.t
  clear d3 B3
  go_wp2_with (at_builtin; refine app_arg rfl (.tmp 19) (.tmp 22) rfl wa _ _ rfl E3.out _ _ rfl D3.out (by simp [numBytes]) ?_)
  intro v4 w4 b4
  clear D3 E3
  have B4 : Hid (Buf wa w4 v4 (numBytes 2 h.age ++ [h.opts, h.typ] ++ numBytes 4 h.id ++ numBytes 4 h.adv)) := b4
  obtain ⟨c0, c1, c2, c3, c4, c5, c6, c7⟩ := K0.out.keep b4.t
  clear b4
  go_wp2_with fail
  refine Calls.mono (rfour_any (h.seq % 4294967296) _ (by omega) (by omega)) ?_
  rintro e y4 ⟨u4v, rfl, d4⟩
  clear c0 c1 c2 c3 c4 c5 c6 c7
  have D4 : Hid (ArgAt y4 u4v (numBytes 4 (h.seq % 4294967296))) := d4.arg
  have E4 : Hid (Buf wa y4 v4 (numBytes 2 h.age ++ [h.opts, h.typ] ++ numBytes 4 h.id ++ numBytes 4 h.adv)) := B4.out.keep d4.t
  clear d4 B4
  go_wp2_with (at_builtin; refine app_arg rfl (.tmp 24) (.tmp 28) rfl wa _ _ rfl E4.out _ _ rfl D4.out (by simp [numBytes]) ?_)
  intro v5 w5 b5
  clear D4 E4
  have B5 : Hid (Buf wa w5 v5 (numBytes 2 h.age ++ [h.opts, h.typ] ++ numBytes 4 h.id ++ numBytes 4 h.adv ++ numBytes 4 (h.seq % 4294967296))) := b5
  obtain ⟨c0, c1, c2, c3, c4, c5, c6, c7⟩ := K0.out.keep b5.t
  clear b5
  go_wp2_with fail
  refine Calls.mono (rtwo_any h.sum _ OK.out.m.1 OK.out.m.2) ?_
  rintro e y5 ⟨u5v, rfl, d5⟩
  clear c0 c1 c2 c3 c4 c5 c6 c7
  have D5 : Hid (ArgAt y5 u5v (numBytes 2 h.sum)) := d5.arg
  have E5 : Hid (Buf wa y5 v5 (numBytes 2 h.age ++ [h.opts, h.typ] ++ numBytes 4 h.id ++ numBytes 4 h.adv ++ numBytes 4 (h.seq % 4294967296))) := B5.out.keep d5.t
  clear d5 B5
  go_wp2_with (at_builtin; refine app_arg rfl (.tmp 30) (.tmp 33) rfl wa _ _ rfl E5.out _ _ rfl D5.out (by simp [numBytes]) ?_)
  intro v6 w6 b6
  clear D5 E5
  have B6 : Hid (Buf wa w6 v6 (numBytes 2 h.age ++ [h.opts, h.typ] ++ numBytes 4 h.id ++ numBytes 4 h.adv ++ numBytes 4 (h.seq % 4294967296) ++ numBytes 2 h.sum)) := b6
  obtain ⟨c0, c1, c2, c3, c4, c5, c6, c7⟩ := K0.out.keep b6.t
  clear b6
  go_wp2_with fail
  refine Calls.mono (rtwo_any h.len _ OK.out.l.1 OK.out.l.2) ?_
  rintro e y6 ⟨u6v, rfl, d6⟩
  clear c0 c1 c2 c3 c4 c5 c6 c7
  have D6 : Hid (ArgAt y6 u6v (numBytes 2 h.len)) := d6.arg
  have E6 : Hid (Buf wa y6 v6 (numBytes 2 h.age ++ [h.opts, h.typ] ++ numBytes 4 h.id ++ numBytes 4 h.adv ++ numBytes 4 (h.seq % 4294967296) ++ numBytes 2 h.sum)) := B6.out.keep d6.t
  clear d6 B6
  go_wp2_with (at_builtin; refine app_arg rfl (.tmp 35) (.tmp 38) rfl wa _ _ rfl E6.out _ _ rfl D6.out (by simp [numBytes]) ?_)
  intro v7 w7 b7
  clear D6 E6
  have B : Hid (Buf wa w7 v7 (headB h)) := b7
  clear b7
  go_wp2_with fail
  go_ret
  exact ⟨_, rfl, B.out.back T0.out⟩
end Go.Proofs.YthdkihnmeoacaaaGreatDoor

namespace Go.Proofs.YthdkihnmeoacaaaGreatDoor
open Go.RowKit
set_option linter.unusedVariables false
set_option maxRecDepth 100000

set_option maxHeartbeats 2000000 in
theorem rlay_three (t : Int) (ht : t = 3) (b : BV) (ok : b.Ok) (vl vr vd : Value) (w : World) (ha : BArg w b vl vr vd) (hb1 : b.links.length ≤ 8192) (hb2 : b.routers.length ≤ 32768) (hb3 : b.data.length ≤ 131072) :
    Calls Tryz.prog 43 #[.int .u8 t, b.v vl vr vd] w fun e w' => ∃ v, e = .returned v ∧ Buf w w' v (numBytes 4 b.mask ++ numBytes 4 b.metric) := by
  obtain ⟨al, cl, rfl, -⟩ := ValsAt.form ha.l
  obtain ⟨ar, cr, rfl, -⟩ := ValsAt.form ha.r
  obtain ⟨ad, cd, rfl, -⟩ := ArgAt.form ha.d
  have OK : Hid b.Ok := ok
  have HA : Hid (BArg w b (.slice al b.links.length cl) (.slice ar b.routers.length cr) (.slice ad b.data.length cd)) := ha
  clear ok ha
  show Calls Tryz.prog 43 #[.int .u8 t, .agg #[.int .u8 b.flags, .slice al b.links.length cl, .int .u32 b.mask, .slice ar b.routers.length cr, .int .u32 b.metric, .bool b.type2, .int .u32 b.fwd, .int .u32 b.tag, .slice ad b.data.length cd]] w _
  subst ht
  go_enter Tryz.func43, Tryz.ntmps43
  go_wp2_with fail
  have K0 : Hid (Bd (w.alloc (.cells #[.int .u8 b.flags, .slice al b.links.length cl, .int .u32 b.mask, .slice ar b.routers.length cr, .int .u32 b.metric, .bool b.type2, .int .u32 b.fwd, .int .u32 b.tag, .slice ad b.data.length cd] 30)) w.heap.size b (.slice al b.links.length cl) (.slice ar b.routers.length cr) (.slice ad b.data.length cd)) := Bd.new w b _ _ _ _
  have T0 : Hid (Touch (fun _ => False) w (w.alloc (.cells #[.int .u8 b.flags, .slice al b.links.length cl, .int .u32 b.mask, .slice ar b.routers.length cr, .int .u32 b.metric, .bool b.type2, .int .u32 b.fwd, .int .u32 b.tag, .slice ad b.data.length cd] 30))) := (Touch.refl _ w).alloc _
  have A0 : Hid (BArg (w.alloc (.cells #[.int .u8 b.flags, .slice al b.links.length cl, .int .u32 b.mask, .slice ar b.routers.length cr, .int .u32 b.metric, .bool b.type2, .int .u32 b.fwd, .int .u32 b.tag, .slice ad b.data.length cd] 30)) b (.slice al b.links.length cl) (.slice ar b.routers.length cr) (.slice ad b.data.length cd)) := HA.out.keep T0.out
  clear HA
  generalize w.alloc (.cells #[.int .u8 b.flags, .slice al b.links.length cl, .int .u32 b.mask, .slice ar b.routers.length cr, .int .u32 b.metric, .bool b.type2, .int .u32 b.fwd, .int .u32 b.tag, .slice ad b.data.length cd] 30) = wa at K0 T0 A0 ⊢
  generalize w.heap.size = g at K0 ⊢
  have B0 : Hid (Buf wa wa (.slice none 0 0) []) := Buf.nil (Touch.refl _ _)
  refine Calls.mono (rfour_any b.mask _ OK.out.m.1 OK.out.m.2) ?_
  rintro e y0 ⟨u0v, rfl, d0⟩
  have D0 : Hid (ArgAt y0 u0v (numBytes 4 b.mask)) := d0.arg
  have E0 : Hid (Buf wa y0 _ ([])) := B0.out.keep d0.t
  obtain ⟨c0, c1, c2, c3, c4, c5, c6, c7, c8⟩ := K0.out.keep E0.out.t
  clear d0 B0
  go_wp2_with (at_builtin; refine app_arg rfl (.tmp 86) (.tmp 89) rfl wa _ _ rfl E0.out _ _ rfl D0.out (by simp [numBytes]) ?_)
  intro v1 w1 b1
  clear D0 E0 c0 c1 c2 c3 c4 c5 c6 c7 c8
  have B1 : Hid (Buf wa w1 v1 (numBytes 4 b.mask)) := b1
  clear b1
  obtain ⟨c0, c1, c2, c3, c4, c5, c6, c7, c8⟩ := K0.out.keep B1.out.t
  go_wp2_with fail
  refine Calls.mono (rfour_any b.metric _ OK.out.e.1 OK.out.e.2) ?_
  rintro e y1 ⟨u1v, rfl, d1⟩
  clear c0 c1 c2 c3 c4 c5 c6 c7 c8
  have D1 : Hid (ArgAt y1 u1v (numBytes 4 b.metric)) := d1.arg
  have E1 : Hid (Buf wa y1 _ (numBytes 4 b.mask)) := B1.out.keep d1.t
  obtain ⟨c0, c1, c2, c3, c4, c5, c6, c7, c8⟩ := K0.out.keep E1.out.t
  clear d1 B1
  go_wp2_with (at_builtin; refine app_arg rfl (.tmp 91) (.tmp 94) rfl wa _ _ rfl E1.out _ _ rfl D1.out (by simp [numBytes]) ?_)
  intro v2 w2 b2
  clear D1 E1 c0 c1 c2 c3 c4 c5 c6 c7 c8
  have B2 : Hid (Buf wa w2 v2 (numBytes 4 b.mask ++ numBytes 4 b.metric)) := b2
  clear b2
  obtain ⟨c0, c1, c2, c3, c4, c5, c6, c7, c8⟩ := K0.out.keep B2.out.t
  go_wp2_with fail
  go_ret
  exact ⟨_, rfl, B2.out.back T0.out⟩
set_option maxHeartbeats 2000000 in
theorem rlay_four (t : Int) (ht : t = 4) (b : BV) (ok : b.Ok) (vl vr vd : Value) (w : World) (ha : BArg w b vl vr vd) (hb1 : b.links.length ≤ 8192) (hb2 : b.routers.length ≤ 32768) (hb3 : b.data.length ≤ 131072) :
    Calls Tryz.prog 43 #[.int .u8 t, b.v vl vr vd] w fun e w' => ∃ v, e = .returned v ∧ Buf w w' v (numBytes 4 b.mask ++ numBytes 4 b.metric) := by
  obtain ⟨al, cl, rfl, -⟩ := ValsAt.form ha.l
  obtain ⟨ar, cr, rfl, -⟩ := ValsAt.form ha.r
  obtain ⟨ad, cd, rfl, -⟩ := ArgAt.form ha.d
  have OK : Hid b.Ok := ok
  have HA : Hid (BArg w b (.slice al b.links.length cl) (.slice ar b.routers.length cr) (.slice ad b.data.length cd)) := ha
  clear ok ha
  show Calls Tryz.prog 43 #[.int .u8 t, .agg #[.int .u8 b.flags, .slice al b.links.length cl, .int .u32 b.mask, .slice ar b.routers.length cr, .int .u32 b.metric, .bool b.type2, .int .u32 b.fwd, .int .u32 b.tag, .slice ad b.data.length cd]] w _
  subst ht
  go_enter Tryz.func43, Tryz.ntmps43
  go_wp2_with fail
  have K0 : Hid (Bd (w.alloc (.cells #[.int .u8 b.flags, .slice al b.links.length cl, .int .u32 b.mask, .slice ar b.routers.length cr, .int .u32 b.metric, .bool b.type2, .int .u32 b.fwd, .int .u32 b.tag, .slice ad b.data.length cd] 30)) w.heap.size b (.slice al b.links.length cl) (.slice ar b.routers.length cr) (.slice ad b.data.length cd)) := Bd.new w b _ _ _ _
  have T0 : Hid (Touch (fun _ => False) w (w.alloc (.cells #[.int .u8 b.flags, .slice al b.links.length cl, .int .u32 b.mask, .slice ar b.routers.length cr, .int .u32 b.metric, .bool b.type2, .int .u32 b.fwd, .int .u32 b.tag, .slice ad b.data.length cd] 30))) := (Touch.refl _ w).alloc _
  have A0 : Hid (BArg (w.alloc (.cells #[.int .u8 b.flags, .slice al b.links.length cl, .int .u32 b.mask, .slice ar b.routers.length cr, .int .u32 b.metric, .bool b.type2, .int .u32 b.fwd, .int .u32 b.tag, .slice ad b.data.length cd] 30)) b (.slice al b.links.length cl) (.slice ar b.routers.length cr) (.slice ad b.data.length cd)) := HA.out.keep T0.out
  clear HA
  generalize w.alloc (.cells #[.int .u8 b.flags, .slice al b.links.length cl, .int .u32 b.mask, .slice ar b.routers.length cr, .int .u32 b.metric, .bool b.type2, .int .u32 b.fwd, .int .u32 b.tag, .slice ad b.data.length cd] 30) = wa at K0 T0 A0 ⊢
  generalize w.heap.size = g at K0 ⊢
  have B0 : Hid (Buf wa wa (.slice none 0 0) []) := Buf.nil (Touch.refl _ _)
  refine Calls.mono (rfour_any b.mask _ OK.out.m.1 OK.out.m.2) ?_
  rintro e y0 ⟨u0v, rfl, d0⟩
  have D0 : Hid (ArgAt y0 u0v (numBytes 4 b.mask)) := d0.arg
  have E0 : Hid (Buf wa y0 _ ([])) := B0.out.keep d0.t
  obtain ⟨c0, c1, c2, c3, c4, c5, c6, c7, c8⟩ := K0.out.keep E0.out.t
  clear d0 B0
  go_wp2_with (at_builtin; refine app_arg rfl (.tmp 86) (.tmp 89) rfl wa _ _ rfl E0.out _ _ rfl D0.out (by simp [numBytes]) ?_)
  intro v1 w1 b1
  clear D0 E0 c0 c1 c2 c3 c4 c5 c6 c7 c8
  have B1 : Hid (Buf wa w1 v1 (numBytes 4 b.mask)) := b1
  clear b1
  obtain ⟨c0, c1, c2, c3, c4, c5, c6, c7, c8⟩ := K0.out.keep B1.out.t
  go_wp2_with fail
  refine Calls.mono (rfour_any b.metric _ OK.out.e.1 OK.out.e.2) ?_
  rintro e y1 ⟨u1v, rfl, d1⟩
  clear c0 c1 c2 c3 c4 c5 c6 c7 c8
  have D1 : Hid (ArgAt y1 u1v (numBytes 4 b.metric)) := d1.arg
  have E1 : Hid (Buf wa y1 _ (numBytes 4 b.mask)) := B1.out.keep d1.t
  obtain ⟨c0, c1, c2, c3, c4, c5, c6, c7, c8⟩ := K0.out.keep E1.out.t
  clear d1 B1
  go_wp2_with (at_builtin; refine app_arg rfl (.tmp 91) (.tmp 94) rfl wa _ _ rfl E1.out _ _ rfl D1.out (by simp [numBytes]) ?_)
  intro v2 w2 b2
  clear D1 E1 c0 c1 c2 c3 c4 c5 c6 c7 c8
  have B2 : Hid (Buf wa w2 v2 (numBytes 4 b.mask ++ numBytes 4 b.metric)) := b2
  clear b2
  obtain ⟨c0, c1, c2, c3, c4, c5, c6, c7, c8⟩ := K0.out.keep B2.out.t
  go_wp2_with fail
  go_ret
  exact ⟨_, rfl, B2.out.back T0.out⟩
set_option maxHeartbeats 2000000 in
theorem rlay_five (t : Int) (ht : t = 5) (b : BV) (ok : b.Ok) (vl vr vd : Value) (w : World) (ha : BArg w b vl vr vd) (hb1 : b.links.length ≤ 8192) (hb2 : b.routers.length ≤ 32768) (hb3 : b.data.length ≤ 131072) :
    Calls Tryz.prog 43 #[.int .u8 t, b.v vl vr vd] w fun e w' => ∃ v, e = .returned v ∧ Buf w w' v (numBytes 4 b.mask ++ numBytes 4 (metricN b) ++ numBytes 4 b.fwd ++ numBytes 4 b.tag) := by
  obtain ⟨al, cl, rfl, -⟩ := ValsAt.form ha.l
  obtain ⟨ar, cr, rfl, -⟩ := ValsAt.form ha.r
  obtain ⟨ad, cd, rfl, -⟩ := ArgAt.form ha.d
  have OK : Hid b.Ok := ok
  have HA : Hid (BArg w b (.slice al b.links.length cl) (.slice ar b.routers.length cr) (.slice ad b.data.length cd)) := ha
  clear ok ha
  show Calls Tryz.prog 43 #[.int .u8 t, .agg #[.int .u8 b.flags, .slice al b.links.length cl, .int .u32 b.mask, .slice ar b.routers.length cr, .int .u32 b.metric, .bool b.type2, .int .u32 b.fwd, .int .u32 b.tag, .slice ad b.data.length cd]] w _
  subst ht
  go_enter Tryz.func43, Tryz.ntmps43
  go_wp2_with fail
  have K0 : Hid (Bd (w.alloc (.cells #[.int .u8 b.flags, .slice al b.links.length cl, .int .u32 b.mask, .slice ar b.routers.length cr, .int .u32 b.metric, .bool b.type2, .int .u32 b.fwd, .int .u32 b.tag, .slice ad b.data.length cd] 30)) w.heap.size b (.slice al b.links.length cl) (.slice ar b.routers.length cr) (.slice ad b.data.length cd)) := Bd.new w b _ _ _ _
  have T0 : Hid (Touch (fun _ => False) w (w.alloc (.cells #[.int .u8 b.flags, .slice al b.links.length cl, .int .u32 b.mask, .slice ar b.routers.length cr, .int .u32 b.metric, .bool b.type2, .int .u32 b.fwd, .int .u32 b.tag, .slice ad b.data.length cd] 30))) := (Touch.refl _ w).alloc _
  have A0 : Hid (BArg (w.alloc (.cells #[.int .u8 b.flags, .slice al b.links.length cl, .int .u32 b.mask, .slice ar b.routers.length cr, .int .u32 b.metric, .bool b.type2, .int .u32 b.fwd, .int .u32 b.tag, .slice ad b.data.length cd] 30)) b (.slice al b.links.length cl) (.slice ar b.routers.length cr) (.slice ad b.data.length cd)) := HA.out.keep T0.out
  clear HA
  generalize w.alloc (.cells #[.int .u8 b.flags, .slice al b.links.length cl, .int .u32 b.mask, .slice ar b.routers.length cr, .int .u32 b.metric, .bool b.type2, .int .u32 b.fwd, .int .u32 b.tag, .slice ad b.data.length cd] 30) = wa at K0 T0 A0 ⊢
  generalize w.heap.size = g at K0 ⊢
  have B0 : Hid (Buf wa wa (.slice none 0 0) []) := Buf.nil (Touch.refl _ _)
  refine Calls.mono (rfour_any b.mask _ OK.out.m.1 OK.out.m.2) ?_
  rintro e y0 ⟨u0v, rfl, d0⟩
  have D0 : Hid (ArgAt y0 u0v (numBytes 4 b.mask)) := d0.arg
  have E0 : Hid (Buf wa y0 _ ([])) := B0.out.keep d0.t
  obtain ⟨c0, c1, c2, c3, c4, c5, c6, c7, c8⟩ := K0.out.keep E0.out.t
  clear d0 B0
  go_wp2_with (at_builtin; refine app_arg rfl (.tmp 99) (.tmp 102) rfl wa _ _ rfl E0.out _ _ rfl D0.out (by simp [numBytes]) ?_)
  intro v1 w1 b1
  clear D0 E0 c0 c1 c2 c3 c4 c5 c6 c7 c8
  have B1 : Hid (Buf wa w1 v1 (numBytes 4 b.mask)) := b1
  clear b1
  obtain ⟨me0, me1⟩ := OK.out.e
  cases h2 : b.type2 with
  | true =>
    have HM : Hid (metricN b = (b.metric + 2147483648) % 4294967296) := by show _ = _; simp [metricN, h2]
    obtain ⟨c0, c1, c2, c3, c4, c5, c6, c7, c8⟩ := K0.out.keep B1.out.t
    rw [h2] at c5
    clear h2
    go_wp2_with fail
    clear c0 c1 c2 c3 c4 c5 c6 c7 c8
    refine Calls.mono (rfour_any ((b.metric + 2147483648) % 4294967296) _ (by omega) (by omega)) ?_
    rintro e y1 ⟨u1v, rfl, d1⟩
    have D1 : Hid (ArgAt y1 u1v (numBytes 4 ((b.metric + 2147483648) % 4294967296))) := d1.arg
    have E1 : Hid (Buf wa y1 _ (numBytes 4 b.mask)) := B1.out.keep d1.t
    obtain ⟨c0, c1, c2, c3, c4, c5, c6, c7, c8⟩ := K0.out.keep E1.out.t
    clear d1 B1
    go_wp2_with (at_builtin; refine app_arg rfl (.tmp 110) (.tmp 112) rfl wa _ _ rfl E1.out _ _ rfl D1.out (by simp [numBytes]) ?_)
    intro v2 w2 b2
    clear D1 E1 c0 c1 c2 c3 c4 c5 c6 c7 c8
    have B2 : Hid (Buf wa w2 v2 (numBytes 4 b.mask ++ numBytes 4 ((b.metric + 2147483648) % 4294967296))) := b2
    clear b2
    obtain ⟨c0, c1, c2, c3, c4, c5, c6, c7, c8⟩ := K0.out.keep B2.out.t
    go_wp2_with fail
    refine Calls.mono (rfour_any b.fwd _ OK.out.w.1 OK.out.w.2) ?_
    rintro e y2 ⟨u2v, rfl, d2⟩
    clear c0 c1 c2 c3 c4 c5 c6 c7 c8
    have D2 : Hid (ArgAt y2 u2v (numBytes 4 b.fwd)) := d2.arg
    have E2 : Hid (Buf wa y2 _ (numBytes 4 b.mask ++ numBytes 4 ((b.metric + 2147483648) % 4294967296))) := B2.out.keep d2.t
    obtain ⟨c0, c1, c2, c3, c4, c5, c6, c7, c8⟩ := K0.out.keep E2.out.t
    clear d2 B2
    go_wp2_with (at_builtin; refine app_arg rfl (.tmp 114) (.tmp 117) rfl wa _ _ rfl E2.out _ _ rfl D2.out (by simp [numBytes]) ?_)
    intro v3 w3 b3
    clear D2 E2 c0 c1 c2 c3 c4 c5 c6 c7 c8
    have B3 : Hid (Buf wa w3 v3 (numBytes 4 b.mask ++ numBytes 4 ((b.metric + 2147483648) % 4294967296) ++ numBytes 4 b.fwd)) := b3
    clear b3
    obtain ⟨c0, c1, c2, c3, c4, c5, c6, c7, c8⟩ := K0.out.keep B3.out.t
    go_wp2_with fail
    refine Calls.mono (rfour_any b.tag _ OK.out.t.1 OK.out.t.2) ?_
    rintro e y3 ⟨u3v, rfl, d3⟩
    clear c0 c1 c2 c3 c4 c5 c6 c7 c8
    have D3 : Hid (ArgAt y3 u3v (numBytes 4 b.tag)) := d3.arg
    have E3 : Hid (Buf wa y3 _ (numBytes 4 b.mask ++ numBytes 4 ((b.metric + 2147483648) % 4294967296) ++ numBytes 4 b.fwd)) := B3.out.keep d3.t
    obtain ⟨c0, c1, c2, c3, c4, c5, c6, c7, c8⟩ := K0.out.keep E3.out.t
    clear d3 B3
    go_wp2_with (at_builtin; refine app_arg rfl (.tmp 119) (.tmp 122) rfl wa _ _ rfl E3.out _ _ rfl D3.out (by simp [numBytes]) ?_)
    intro v4 w4 b4
    clear D3 E3 c0 c1 c2 c3 c4 c5 c6 c7 c8
    have B4 : Hid (Buf wa w4 v4 (numBytes 4 b.mask ++ numBytes 4 ((b.metric + 2147483648) % 4294967296) ++ numBytes 4 b.fwd ++ numBytes 4 b.tag)) := b4
    clear b4
    obtain ⟨c0, c1, c2, c3, c4, c5, c6, c7, c8⟩ := K0.out.keep B4.out.t
    go_wp2_with fail
    go_ret
    exact ⟨_, rfl, by rw [HM.out]; exact B4.out.back T0.out⟩
  | false =>
    have HM : Hid (metricN b = b.metric) := by show _ = _; simp [metricN, h2]
    obtain ⟨c0, c1, c2, c3, c4, c5, c6, c7, c8⟩ := K0.out.keep B1.out.t
    rw [h2] at c5
    clear h2
    go_wp2_with fail
    clear c0 c1 c2 c3 c4 c5 c6 c7 c8
    refine Calls.mono (rfour_any (b.metric) _ (by omega) (by omega)) ?_
    rintro e y1 ⟨u1v, rfl, d1⟩
    have D1 : Hid (ArgAt y1 u1v (numBytes 4 (b.metric))) := d1.arg
    have E1 : Hid (Buf wa y1 _ (numBytes 4 b.mask)) := B1.out.keep d1.t
    obtain ⟨c0, c1, c2, c3, c4, c5, c6, c7, c8⟩ := K0.out.keep E1.out.t
    clear d1 B1
    go_wp2_with (at_builtin; refine app_arg rfl (.tmp 110) (.tmp 112) rfl wa _ _ rfl E1.out _ _ rfl D1.out (by simp [numBytes]) ?_)
    intro v2 w2 b2
    clear D1 E1 c0 c1 c2 c3 c4 c5 c6 c7 c8
    have B2 : Hid (Buf wa w2 v2 (numBytes 4 b.mask ++ numBytes 4 (b.metric))) := b2
    clear b2
    obtain ⟨c0, c1, c2, c3, c4, c5, c6, c7, c8⟩ := K0.out.keep B2.out.t
    go_wp2_with fail
    refine Calls.mono (rfour_any b.fwd _ OK.out.w.1 OK.out.w.2) ?_
    rintro e y2 ⟨u2v, rfl, d2⟩
    clear c0 c1 c2 c3 c4 c5 c6 c7 c8
    have D2 : Hid (ArgAt y2 u2v (numBytes 4 b.fwd)) := d2.arg
    have E2 : Hid (Buf wa y2 _ (numBytes 4 b.mask ++ numBytes 4 (b.metric))) := B2.out.keep d2.t
    obtain ⟨c0, c1, c2, c3, c4, c5, c6, c7, c8⟩ := K0.out.keep E2.out.t
    clear d2 B2
    go_wp2_with (at_builtin; refine app_arg rfl (.tmp 114) (.tmp 117) rfl wa _ _ rfl E2.out _ _ rfl D2.out (by simp [numBytes]) ?_)
    intro v3 w3 b3
    clear D2 E2 c0 c1 c2 c3 c4 c5 c6 c7 c8
    have B3 : Hid (Buf wa w3 v3 (numBytes 4 b.mask ++ numBytes 4 (b.metric) ++ numBytes 4 b.fwd)) := b3
    clear b3
    obtain ⟨c0, c1, c2, c3, c4, c5, c6, c7, c8⟩ := K0.out.keep B3.out.t
    go_wp2_with fail
    refine Calls.mono (rfour_any b.tag _ OK.out.t.1 OK.out.t.2) ?_
    rintro e y3 ⟨u3v, rfl, d3⟩
    clear c0 c1 c2 c3 c4 c5 c6 c7 c8
    have D3 : Hid (ArgAt y3 u3v (numBytes 4 b.tag)) := d3.arg
    have E3 : Hid (Buf wa y3 _ (numBytes 4 b.mask ++ numBytes 4 (b.metric) ++ numBytes 4 b.fwd)) := B3.out.keep d3.t
    obtain ⟨c0, c1, c2, c3, c4, c5, c6, c7, c8⟩ := K0.out.keep E3.out.t
    clear d3 B3
    go_wp2_with (at_builtin; refine app_arg rfl (.tmp 119) (.tmp 122) rfl wa _ _ rfl E3.out _ _ rfl D3.out (by simp [numBytes]) ?_)
    intro v4 w4 b4
    clear D3 E3 c0 c1 c2 c3 c4 c5 c6 c7 c8
    have B4 : Hid (Buf wa w4 v4 (numBytes 4 b.mask ++ numBytes 4 (b.metric) ++ numBytes 4 b.fwd ++ numBytes 4 b.tag)) := b4
    clear b4
    obtain ⟨c0, c1, c2, c3, c4, c5, c6, c7, c8⟩ := K0.out.keep B4.out.t
    go_wp2_with fail
    go_ret
    exact ⟨_, rfl, by rw [HM.out]; exact B4.out.back T0.out⟩
set_option maxHeartbeats 2000000 in
theorem rlay_seven (t : Int) (ht : t = 7) (b : BV) (ok : b.Ok) (vl vr vd : Value) (w : World) (ha : BArg w b vl vr vd) (hb1 : b.links.length ≤ 8192) (hb2 : b.routers.length ≤ 32768) (hb3 : b.data.length ≤ 131072) :
    Calls Tryz.prog 43 #[.int .u8 t, b.v vl vr vd] w fun e w' => ∃ v, e = .returned v ∧ Buf w w' v (numBytes 4 b.mask ++ numBytes 4 (metricN b) ++ numBytes 4 b.fwd ++ numBytes 4 b.tag) := by
  obtain ⟨al, cl, rfl, -⟩ := ValsAt.form ha.l
  obtain ⟨ar, cr, rfl, -⟩ := ValsAt.form ha.r
  obtain ⟨ad, cd, rfl, -⟩ := ArgAt.form ha.d
  have OK : Hid b.Ok := ok
  have HA : Hid (BArg w b (.slice al b.links.length cl) (.slice ar b.routers.length cr) (.slice ad b.data.length cd)) := ha
  clear ok ha
  show Calls Tryz.prog 43 #[.int .u8 t, .agg #[.int .u8 b.flags, .slice al b.links.length cl, .int .u32 b.mask, .slice ar b.routers.length cr, .int .u32 b.metric, .bool b.type2, .int .u32 b.fwd, .int .u32 b.tag, .slice ad b.data.length cd]] w _
  subst ht
  go_enter Tryz.func43, Tryz.ntmps43
  go_wp2_with fail
  have K0 : Hid (Bd (w.alloc (.cells #[.int .u8 b.flags, .slice al b.links.length cl, .int .u32 b.mask, .slice ar b.routers.length cr, .int .u32 b.metric, .bool b.type2, .int .u32 b.fwd, .int .u32 b.tag, .slice ad b.data.length cd] 30)) w.heap.size b (.slice al b.links.length cl) (.slice ar b.routers.length cr) (.slice ad b.data.length cd)) := Bd.new w b _ _ _ _
  have T0 : Hid (Touch (fun _ => False) w (w.alloc (.cells #[.int .u8 b.flags, .slice al b.links.length cl, .int .u32 b.mask, .slice ar b.routers.length cr, .int .u32 b.metric, .bool b.type2, .int .u32 b.fwd, .int .u32 b.tag, .slice ad b.data.length cd] 30))) := (Touch.refl _ w).alloc _
  have A0 : Hid (BArg (w.alloc (.cells #[.int .u8 b.flags, .slice al b.links.length cl, .int .u32 b.mask, .slice ar b.routers.length cr, .int .u32 b.metric, .bool b.type2, .int .u32 b.fwd, .int .u32 b.tag, .slice ad b.data.length cd] 30)) b (.slice al b.links.length cl) (.slice ar b.routers.length cr) (.slice ad b.data.length cd)) := HA.out.keep T0.out
  clear HA
  generalize w.alloc (.cells #[.int .u8 b.flags, .slice al b.links.length cl, .int .u32 b.mask, .slice ar b.routers.length cr, .int .u32 b.metric, .bool b.type2, .int .u32 b.fwd, .int .u32 b.tag, .slice ad b.data.length cd] 30) = wa at K0 T0 A0 ⊢
  generalize w.heap.size = g at K0 ⊢
  have B0 : Hid (Buf wa wa (.slice none 0 0) []) := Buf.nil (Touch.refl _ _)
  refine Calls.mono (rfour_any b.mask _ OK.out.m.1 OK.out.m.2) ?_
  rintro e y0 ⟨u0v, rfl, d0⟩
  have D0 : Hid (ArgAt y0 u0v (numBytes 4 b.mask)) := d0.arg
  have E0 : Hid (Buf wa y0 _ ([])) := B0.out.keep d0.t
  obtain ⟨c0, c1, c2, c3, c4, c5, c6, c7, c8⟩ := K0.out.keep E0.out.t
  clear d0 B0
  go_wp2_with (at_builtin; refine app_arg rfl (.tmp 99) (.tmp 102) rfl wa _ _ rfl E0.out _ _ rfl D0.out (by simp [numBytes]) ?_)
  intro v1 w1 b1
  clear D0 E0 c0 c1 c2 c3 c4 c5 c6 c7 c8
  have B1 : Hid (Buf wa w1 v1 (numBytes 4 b.mask)) := b1
  clear b1
  obtain ⟨me0, me1⟩ := OK.out.e
  cases h2 : b.type2 with
  | true =>
    have HM : Hid (metricN b = (b.metric + 2147483648) % 4294967296) := by show _ = _; simp [metricN, h2]
    obtain ⟨c0, c1, c2, c3, c4, c5, c6, c7, c8⟩ := K0.out.keep B1.out.t
    rw [h2] at c5
    clear h2
    go_wp2_with fail
    clear c0 c1 c2 c3 c4 c5 c6 c7 c8
    refine Calls.mono (rfour_any ((b.metric + 2147483648) % 4294967296) _ (by omega) (by omega)) ?_
    rintro e y1 ⟨u1v, rfl, d1⟩
    have D1 : Hid (ArgAt y1 u1v (numBytes 4 ((b.metric + 2147483648) % 4294967296))) := d1.arg
    have E1 : Hid (Buf wa y1 _ (numBytes 4 b.mask)) := B1.out.keep d1.t
    obtain ⟨c0, c1, c2, c3, c4, c5, c6, c7, c8⟩ := K0.out.keep E1.out.t
    clear d1 B1
    go_wp2_with (at_builtin; refine app_arg rfl (.tmp 110) (.tmp 112) rfl wa _ _ rfl E1.out _ _ rfl D1.out (by simp [numBytes]) ?_)
    intro v2 w2 b2
    clear D1 E1 c0 c1 c2 c3 c4 c5 c6 c7 c8
    have B2 : Hid (Buf wa w2 v2 (numBytes 4 b.mask ++ numBytes 4 ((b.metric + 2147483648) % 4294967296))) := b2
    clear b2
    obtain ⟨c0, c1, c2, c3, c4, c5, c6, c7, c8⟩ := K0.out.keep B2.out.t
    go_wp2_with fail
    refine Calls.mono (rfour_any b.fwd _ OK.out.w.1 OK.out.w.2) ?_
    rintro e y2 ⟨u2v, rfl, d2⟩
    clear c0 c1 c2 c3 c4 c5 c6 c7 c8
    have D2 : Hid (ArgAt y2 u2v (numBytes 4 b.fwd)) := d2.arg
    have E2 : Hid (Buf wa y2 _ (numBytes 4 b.mask ++ numBytes 4 ((b.metric + 2147483648) % 4294967296))) := B2.out.keep d2.t
    obtain ⟨c0, c1, c2, c3, c4, c5, c6, c7, c8⟩ := K0.out.keep E2.out.t
    clear d2 B2
    go_wp2_with (at_builtin; refine app_arg rfl (.tmp 114) (.tmp 117) rfl wa _ _ rfl E2.out _ _ rfl D2.out (by simp [numBytes]) ?_)
    intro v3 w3 b3
    clear D2 E2 c0 c1 c2 c3 c4 c5 c6 c7 c8
    have B3 : Hid (Buf wa w3 v3 (numBytes 4 b.mask ++ numBytes 4 ((b.metric + 2147483648) % 4294967296) ++ numBytes 4 b.fwd)) := b3
    clear b3
    obtain ⟨c0, c1, c2, c3, c4, c5, c6, c7, c8⟩ := K0.out.keep B3.out.t
    go_wp2_with fail
    refine Calls.mono (rfour_any b.tag _ OK.out.t.1 OK.out.t.2) ?_
    rintro e y3 ⟨u3v, rfl, d3⟩
    clear c0 c1 c2 c3 c4 c5 c6 c7 c8
    have D3 : Hid (ArgAt y3 u3v (numBytes 4 b.tag)) := d3.arg
    have E3 : Hid (Buf wa y3 _ (numBytes 4 b.mask ++ numBytes 4 ((b.metric + 2147483648) % 4294967296) ++ numBytes 4 b.fwd)) := B3.out.keep d3.t
    obtain ⟨c0, c1, c2, c3, c4, c5, c6, c7, c8⟩ := K0.out.keep E3.out.t
    clear d3 B3
    go_wp2_with (at_builtin; refine app_arg rfl (.tmp 119) (.tmp 122) rfl wa _ _ rfl E3.out _ _ rfl D3.out (by simp [numBytes]) ?_)
    intro v4 w4 b4
    clear D3 E3 c0 c1 c2 c3 c4 c5 c6 c7 c8
    have B4 : Hid (Buf wa w4 v4 (numBytes 4 b.mask ++ numBytes 4 ((b.metric + 2147483648) % 4294967296) ++ numBytes 4 b.fwd ++ numBytes 4 b.tag)) := b4
    clear b4
    obtain ⟨c0, c1, c2, c3, c4, c5, c6, c7, c8⟩ := K0.out.keep B4.out.t
    go_wp2_with fail
    go_ret
    exact ⟨_, rfl, by rw [HM.out]; exact B4.out.back T0.out⟩
  | false =>
    have HM : Hid (metricN b = b.metric) := by show _ = _; simp [metricN, h2]
    obtain ⟨c0, c1, c2, c3, c4, c5, c6, c7, c8⟩ := K0.out.keep B1.out.t
    rw [h2] at c5
    clear h2
    go_wp2_with fail
    clear c0 c1 c2 c3 c4 c5 c6 c7 c8
    refine Calls.mono (rfour_any (b.metric) _ (by omega) (by omega)) ?_
    rintro e y1 ⟨u1v, rfl, d1⟩
    have D1 : Hid (ArgAt y1 u1v (numBytes 4 (b.metric))) := d1.arg
    have E1 : Hid (Buf wa y1 _ (numBytes 4 b.mask)) := B1.out.keep d1.t
    obtain ⟨c0, c1, c2, c3, c4, c5, c6, c7, c8⟩ := K0.out.keep E1.out.t
    clear d1 B1
    go_wp2_with (at_builtin; refine app_arg rfl (.tmp 110) (.tmp 112) rfl wa _ _ rfl E1.out _ _ rfl D1.out (by simp [numBytes]) ?_)
    intro v2 w2 b2
    clear D1 E1 c0 c1 c2 c3 c4 c5 c6 c7 c8
    have B2 : Hid (Buf wa w2 v2 (numBytes 4 b.mask ++ numBytes 4 (b.metric))) := b2
    clear b2
    obtain ⟨c0, c1, c2, c3, c4, c5, c6, c7, c8⟩ := K0.out.keep B2.out.t
    go_wp2_with fail
    refine Calls.mono (rfour_any b.fwd _ OK.out.w.1 OK.out.w.2) ?_
    rintro e y2 ⟨u2v, rfl, d2⟩
    clear c0 c1 c2 c3 c4 c5 c6 c7 c8
    have D2 : Hid (ArgAt y2 u2v (numBytes 4 b.fwd)) := d2.arg
    have E2 : Hid (Buf wa y2 _ (numBytes 4 b.mask ++ numBytes 4 (b.metric))) := B2.out.keep d2.t
    obtain ⟨c0, c1, c2, c3, c4, c5, c6, c7, c8⟩ := K0.out.keep E2.out.t
    clear d2 B2
    go_wp2_with (at_builtin; refine app_arg rfl (.tmp 114) (.tmp 117) rfl wa _ _ rfl E2.out _ _ rfl D2.out (by simp [numBytes]) ?_)
    intro v3 w3 b3
    clear D2 E2 c0 c1 c2 c3 c4 c5 c6 c7 c8
    have B3 : Hid (Buf wa w3 v3 (numBytes 4 b.mask ++ numBytes 4 (b.metric) ++ numBytes 4 b.fwd)) := b3
    clear b3
    obtain ⟨c0, c1, c2, c3, c4, c5, c6, c7, c8⟩ := K0.out.keep B3.out.t
    go_wp2_with fail
    refine Calls.mono (rfour_any b.tag _ OK.out.t.1 OK.out.t.2) ?_
    rintro e y3 ⟨u3v, rfl, d3⟩
    clear c0 c1 c2 c3 c4 c5 c6 c7 c8
    have D3 : Hid (ArgAt y3 u3v (numBytes 4 b.tag)) := d3.arg
    have E3 : Hid (Buf wa y3 _ (numBytes 4 b.mask ++ numBytes 4 (b.metric) ++ numBytes 4 b.fwd)) := B3.out.keep d3.t
    obtain ⟨c0, c1, c2, c3, c4, c5, c6, c7, c8⟩ := K0.out.keep E3.out.t
    clear d3 B3
    go_wp2_with (at_builtin; refine app_arg rfl (.tmp 119) (.tmp 122) rfl wa _ _ rfl E3.out _ _ rfl D3.out (by simp [numBytes]) ?_)
    intro v4 w4 b4
    clear D3 E3 c0 c1 c2 c3 c4 c5 c6 c7 c8
    have B4 : Hid (Buf wa w4 v4 (numBytes 4 b.mask ++ numBytes 4 (b.metric) ++ numBytes 4 b.fwd ++ numBytes 4 b.tag)) := b4
    clear b4
    obtain ⟨c0, c1, c2, c3, c4, c5, c6, c7, c8⟩ := K0.out.keep B4.out.t
    go_wp2_with fail
    go_ret
    exact ⟨_, rfl, by rw [HM.out]; exact B4.out.back T0.out⟩
set_option maxHeartbeats 2000000 in
theorem rlay_data (t : Int) (h1 : ¬ t = 1) (h2 : ¬ t = 2) (h3 : ¬ t = 3) (h4 : ¬ t = 4) (h5 : ¬ t = 5) (h7 : ¬ t = 7) (b : BV) (ok : b.Ok) (vl vr vd : Value) (w : World) (ha : BArg w b vl vr vd) (hb1 : b.links.length ≤ 8192) (hb2 : b.routers.length ≤ 32768) (hb3 : b.data.length ≤ 131072) :
    Calls Tryz.prog 43 #[.int .u8 t, b.v vl vr vd] w fun e w' => ∃ v, e = .returned v ∧ Buf w w' v (b.data) := by
  obtain ⟨al, cl, rfl, -⟩ := ValsAt.form ha.l
  obtain ⟨ar, cr, rfl, -⟩ := ValsAt.form ha.r
  obtain ⟨ad, cd, rfl, -⟩ := ArgAt.form ha.d
  have OK : Hid b.Ok := ok
  have HA : Hid (BArg w b (.slice al b.links.length cl) (.slice ar b.routers.length cr) (.slice ad b.data.length cd)) := ha
  clear ok ha
  show Calls Tryz.prog 43 #[.int .u8 t, .agg #[.int .u8 b.flags, .slice al b.links.length cl, .int .u32 b.mask, .slice ar b.routers.length cr, .int .u32 b.metric, .bool b.type2, .int .u32 b.fwd, .int .u32 b.tag, .slice ad b.data.length cd]] w _
  go_enter Tryz.func43, Tryz.ntmps43
  have HB : Hid (Buf w (w.alloc (.cells #[.int .u8 b.flags, .slice al b.links.length cl, .int .u32 b.mask, .slice ar b.routers.length cr, .int .u32 b.metric, .bool b.type2, .int .u32 b.fwd, .int .u32 b.tag, .slice ad b.data.length cd] 30)) (.slice none 0 0) []) := Buf.nil ((Touch.refl _ _).alloc _)
  have HD : Hid (ArgAt (w.alloc (.cells #[.int .u8 b.flags, .slice al b.links.length cl, .int .u32 b.mask, .slice ar b.routers.length cr, .int .u32 b.metric, .bool b.type2, .int .u32 b.fwd, .int .u32 b.tag, .slice ad b.data.length cd] 30)) (.slice ad b.data.length cd) b.data) := HA.out.d.keepN ((Touch.refl _ _).alloc _)
  go_wp2_with (at_builtin; refine app_arg rfl (.tmp 11) (.tmp 13) rfl w _ _ rfl HB.out _ _ rfl HD.out (by simp; omega) ?_)
  intro v1 w1 b1
  have B1 : Hid (Buf w w1 v1 b.data) := b1
  clear b1 HB HD
  go_wp2_with fail
  go_ret
  exact ⟨_, rfl, B1.out⟩
end Go.Proofs.YthdkihnmeoacaaaGreatDoor
