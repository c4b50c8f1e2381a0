/- The document's Decode. -/
import Derived.Test.YthdkihnmeoacaaaGreatDoorRefRead2
import Derived.Test.YthdkihnmeoacaaaGreatDoorStEnc1
import Derived.Test.YthdkihnmeoacaaaGreatDoorStTypes
namespace Go.Proofs.YthdkihnmeoacaaaGreatDoor
open Go.RowKit
set_option linter.unusedVariables false
set_option maxRecDepth 100000


set_option maxHeartbeats 2000000 in
theorem rdec_len (h : HV) (ok : h.All) (va : Option Addr) (vc : Nat) (rs : List Int) (w : World) (hv : ArgAt w (.slice va rs.length vc) rs) (hn : rs.length ≤ 131072) (hlen : ¬ h.len = 20 + (rs.length : Int)) :
    Calls Tryz.prog 18 #[.agg #[.int .u16 h.age, .int .u8 h.opts, .int .u8 h.typ, .int .u32 h.id, .int .u32 h.adv, .int .i32 h.seq, .int .u16 h.sum, .int .u16 h.len, .slice va rs.length vc]] w fun e w' => e = .returned (.tuple #[.agg #[.int .u8 0, .slice none 0 0, .int .u32 0, .slice none 0 0, .int .u32 0, .bool false, .int .u32 0, .int .u32 0, .slice none 0 0], .int .i64 22]) ∧ Touch (fun _ => False) w w' := by
  have HV' : Hid (ArgAt w (.slice va rs.length vc) rs) := hv
  have hw64 : IntKind.i64.wrap h.len = h.len := by have := ok.l; simp [IntKind.wrap, IntKind.bits, IntKind.signed]; omega
  have hnn : (rs.length : Int) ≤ 131072 := by omega
  have HKN := fun w => rknown_any h.typ ok.t.1 w
  clear hv ok
  go_enter Tryz.func18, Tryz.ntmps18
  go_upto_region 1 with fail
  have z1 : (w.alloc (.cells #[.int .u16 h.age, .int .u8 h.opts, .int .u8 h.typ, .int .u32 h.id, .int .u32 h.adv, .int .i32 h.seq, .int .u16 h.sum, .int .u16 h.len, .slice va rs.length vc] 35)).heap.size = w.heap.size + 1 := by simp [go_sem]
  have K0 : Hid (Sd ((w.alloc (.cells #[.int .u16 h.age, .int .u8 h.opts, .int .u8 h.typ, .int .u32 h.id, .int .u32 h.adv, .int .i32 h.seq, .int .u16 h.sum, .int .u16 h.len, .slice va rs.length vc] 35)).alloc (.cells #[.int .u8 0, .slice none 0 0, .int .u32 0, .slice none 0 0, .int .u32 0, .bool false, .int .u32 0, .int .u32 0, .slice none 0 0] 30)) w.heap.size h (.slice va rs.length vc)) := (Sd.new w h _ _).keep ((Touch.refl _ _).alloc _)
  have R0 : Hid (OutB ((w.alloc (.cells #[.int .u16 h.age, .int .u8 h.opts, .int .u8 h.typ, .int .u32 h.id, .int .u32 h.adv, .int .i32 h.seq, .int .u16 h.sum, .int .u16 h.len, .slice va rs.length vc] 35)).alloc (.cells #[.int .u8 0, .slice none 0 0, .int .u32 0, .slice none 0 0, .int .u32 0, .bool false, .int .u32 0, .int .u32 0, .slice none 0 0] 30)) (w.heap.size + 1) BV.zero (.slice none 0 0) (.slice none 0 0) (.slice none 0 0)) := z1 ▸ OutB.new (w.alloc (.cells #[.int .u16 h.age, .int .u8 h.opts, .int .u8 h.typ, .int .u32 h.id, .int .u32 h.adv, .int .i32 h.seq, .int .u16 h.sum, .int .u16 h.len, .slice va rs.length vc] 35)) BV.zero _ _ _ _
  have T0 : Hid (Touch (fun _ => False) w ((w.alloc (.cells #[.int .u16 h.age, .int .u8 h.opts, .int .u8 h.typ, .int .u32 h.id, .int .u32 h.adv, .int .i32 h.seq, .int .u16 h.sum, .int .u16 h.len, .slice va rs.length vc] 35)).alloc (.cells #[.int .u8 0, .slice none 0 0, .int .u32 0, .slice none 0 0, .int .u32 0, .bool false, .int .u32 0, .int .u32 0, .slice none 0 0] 30))) := ((Touch.refl _ _).alloc _).alloc _
  clear z1
  generalize (w.alloc (.cells #[.int .u16 h.age, .int .u8 h.opts, .int .u8 h.typ, .int .u32 h.id, .int .u32 h.adv, .int .i32 h.seq, .int .u16 h.sum, .int .u16 h.len, .slice va rs.length vc] 35)).alloc (.cells #[.int .u8 0, .slice none 0 0, .int .u32 0, .slice none 0 0, .int .u32 0, .bool false, .int .u32 0, .int .u32 0, .slice none 0 0] 30) = wa at K0 R0 T0 ⊢
  obtain ⟨g1, hg1⟩ : ∃ g, w.heap.size = g := ⟨_, rfl⟩
  have HG1 : Hid (w.heap.size = g1) := hg1
  rw [hg1] at K0 R0 ⊢
  clear hg1
  obtain ⟨⟨c0, c1, c2, c3, c4, c5, c6, c7⟩, c8⟩ := K0.out
  obtain ⟨⟨r0, r1, r2, r3, r4, r5, r6, r7, r8⟩, fr⟩ := R0.out
  have f0 := fr 0 (by omega)
  have f1 := fr 1 (by omega)
  have f2 := fr 2 (by omega)
  have f3 := fr 3 (by omega)
  have f4 := fr 4 (by omega)
  have f5 := fr 5 (by omega)
  have f6 := fr 6 (by omega)
  have f7 := fr 7 (by omega)
  have f8 := fr 8 (by omega)
  clear fr
  dsimp only [BV.zero] at r0 r1 r2 r3 r4 r5 r6 r7 r8
  go_wp2_with fail
  refine bodyPost_ret (v := .tuple #[.agg #[.int .u8 0, .slice none 0 0, .int .u32 0, .slice none 0 0, .int .u32 0, .bool false, .int .u32 0, .int .u32 0, .slice none 0 0], .int .i64 22]) (by simp [results, Tryz.results18, go_sem, r0, r1, r2, r3, r4, r5, r6, r7, r8]) rfl ⟨rfl, ?_⟩
  have hge : False ∨ w.heap.size ≤ g1 + 1 := Or.inr (by have := HG1.out; omega)
  exact (((((((((T0.out).setCell hge _).setCell hge _).setCell hge _).setCell hge _).setCell hge _).setCell hge _).setCell hge _).setCell hge _).setCell hge _

set_option maxHeartbeats 2000000 in
theorem rdec_unk (h : HV) (ok : h.All) (va : Option Addr) (vc : Nat) (rs : List Int) (w : World) (hv : ArgAt w (.slice va rs.length vc) rs) (hn : rs.length ≤ 131072) (hlen : h.len = 20 + (rs.length : Int)) (hk : knownB h.typ = false) :
    Calls Tryz.prog 18 #[.agg #[.int .u16 h.age, .int .u8 h.opts, .int .u8 h.typ, .int .u32 h.id, .int .u32 h.adv, .int .i32 h.seq, .int .u16 h.sum, .int .u16 h.len, .slice va rs.length vc]] w fun e w' => e = .returned (.tuple #[.agg #[.int .u8 0, .slice none 0 0, .int .u32 0, .slice none 0 0, .int .u32 0, .bool false, .int .u32 0, .int .u32 0, .slice none 0 0], .int .i64 21]) ∧ Touch (fun _ => False) w w' := by
  have HV' : Hid (ArgAt w (.slice va rs.length vc) rs) := hv
  have hw64 : IntKind.i64.wrap h.len = h.len := by have := ok.l; simp [IntKind.wrap, IntKind.bits, IntKind.signed]; omega
  have hnn : (rs.length : Int) ≤ 131072 := by omega
  have HKN := fun w => rknown_any h.typ ok.t.1 w
  clear hv ok
  have HLN : Hid (h.len = 20 + (rs.length : Int)) := hlen
  clear hlen
  have hlen' : IntKind.i64.wrap (20 + (rs.length : Int)) = 20 + (rs.length : Int) := by simp [IntKind.wrap, IntKind.bits, IntKind.signed]; omega
  have HK : Hid (knownB h.typ = false) := hk
  clear hk
  go_enter Tryz.func18, Tryz.ntmps18
  go_upto_region 1 with fail
  have z1 : (w.alloc (.cells #[.int .u16 h.age, .int .u8 h.opts, .int .u8 h.typ, .int .u32 h.id, .int .u32 h.adv, .int .i32 h.seq, .int .u16 h.sum, .int .u16 h.len, .slice va rs.length vc] 35)).heap.size = w.heap.size + 1 := by simp [go_sem]
  have K0 : Hid (Sd ((w.alloc (.cells #[.int .u16 h.age, .int .u8 h.opts, .int .u8 h.typ, .int .u32 h.id, .int .u32 h.adv, .int .i32 h.seq, .int .u16 h.sum, .int .u16 h.len, .slice va rs.length vc] 35)).alloc (.cells #[.int .u8 0, .slice none 0 0, .int .u32 0, .slice none 0 0, .int .u32 0, .bool false, .int .u32 0, .int .u32 0, .slice none 0 0] 30)) w.heap.size h (.slice va rs.length vc)) := (Sd.new w h _ _).keep ((Touch.refl _ _).alloc _)
  have R0 : Hid (OutB ((w.alloc (.cells #[.int .u16 h.age, .int .u8 h.opts, .int .u8 h.typ, .int .u32 h.id, .int .u32 h.adv, .int .i32 h.seq, .int .u16 h.sum, .int .u16 h.len, .slice va rs.length vc] 35)).alloc (.cells #[.int .u8 0, .slice none 0 0, .int .u32 0, .slice none 0 0, .int .u32 0, .bool false, .int .u32 0, .int .u32 0, .slice none 0 0] 30)) (w.heap.size + 1) BV.zero (.slice none 0 0) (.slice none 0 0) (.slice none 0 0)) := z1 ▸ OutB.new (w.alloc (.cells #[.int .u16 h.age, .int .u8 h.opts, .int .u8 h.typ, .int .u32 h.id, .int .u32 h.adv, .int .i32 h.seq, .int .u16 h.sum, .int .u16 h.len, .slice va rs.length vc] 35)) BV.zero _ _ _ _
  have T0 : Hid (Touch (fun _ => False) w ((w.alloc (.cells #[.int .u16 h.age, .int .u8 h.opts, .int .u8 h.typ, .int .u32 h.id, .int .u32 h.adv, .int .i32 h.seq, .int .u16 h.sum, .int .u16 h.len, .slice va rs.length vc] 35)).alloc (.cells #[.int .u8 0, .slice none 0 0, .int .u32 0, .slice none 0 0, .int .u32 0, .bool false, .int .u32 0, .int .u32 0, .slice none 0 0] 30))) := ((Touch.refl _ _).alloc _).alloc _
  clear z1
  generalize (w.alloc (.cells #[.int .u16 h.age, .int .u8 h.opts, .int .u8 h.typ, .int .u32 h.id, .int .u32 h.adv, .int .i32 h.seq, .int .u16 h.sum, .int .u16 h.len, .slice va rs.length vc] 35)).alloc (.cells #[.int .u8 0, .slice none 0 0, .int .u32 0, .slice none 0 0, .int .u32 0, .bool false, .int .u32 0, .int .u32 0, .slice none 0 0] 30) = wa at K0 R0 T0 ⊢
  obtain ⟨g1, hg1⟩ : ∃ g, w.heap.size = g := ⟨_, rfl⟩
  have HG1 : Hid (w.heap.size = g1) := hg1
  rw [hg1] at K0 R0 ⊢
  clear hg1
  obtain ⟨⟨c0, c1, c2, c3, c4, c5, c6, c7⟩, c8⟩ := K0.out
  have hlen := HLN.out
  go_wp2_with fail
  refine Calls.mono (HKN _) ?_
  rw [HK.out]
  rintro e w1 ⟨rfl, rfl⟩
  clear HKN hlen
  obtain ⟨⟨r0, r1, r2, r3, r4, r5, r6, r7, r8⟩, fr⟩ := R0.out
  have f0 := fr 0 (by omega)
  have f1 := fr 1 (by omega)
  have f2 := fr 2 (by omega)
  have f3 := fr 3 (by omega)
  have f4 := fr 4 (by omega)
  have f5 := fr 5 (by omega)
  have f6 := fr 6 (by omega)
  have f7 := fr 7 (by omega)
  have f8 := fr 8 (by omega)
  clear fr
  dsimp only [BV.zero] at r0 r1 r2 r3 r4 r5 r6 r7 r8
  go_wp2_with fail
  refine bodyPost_ret (v := .tuple #[.agg #[.int .u8 0, .slice none 0 0, .int .u32 0, .slice none 0 0, .int .u32 0, .bool false, .int .u32 0, .int .u32 0, .slice none 0 0], .int .i64 21]) (by simp [results, Tryz.results18, go_sem, r0, r1, r2, r3, r4, r5, r6, r7, r8]) rfl ⟨rfl, ?_⟩
  have hge : False ∨ w.heap.size ≤ g1 + 1 := Or.inr (by have := HG1.out; omega)
  exact (((((((((T0.out).setCell hge _).setCell hge _).setCell hge _).setCell hge _).setCell hge _).setCell hge _).setCell hge _).setCell hge _).setCell hge _

set_option maxHeartbeats 2000000 in
theorem rdec_read (h : HV) (ok : h.All) (va : Option Addr) (vc : Nat) (rs : List Int) (w : World) (hv : ArgAt w (.slice va rs.length vc) rs) (hn : rs.length ≤ 131072) (hlen : h.len = 20 + (rs.length : Int)) (hk : knownB h.typ = true) (B : BV) (okr : Bool) (HR : ∀ w', Touch (fun _ => False) w w' → Calls Tryz.prog 74 #[.int .u8 h.typ, .slice va rs.length vc] w' fun e w'' => ∃ vl vr vd, e = .returned (.tuple #[B.v vl vr vd, .bool okr]) ∧ BOwn w'.heap.size w'' B vl vr vd ∧ Touch (fun _ => False) w' w'') (ho : okr = false) :
    Calls Tryz.prog 18 #[.agg #[.int .u16 h.age, .int .u8 h.opts, .int .u8 h.typ, .int .u32 h.id, .int .u32 h.adv, .int .i32 h.seq, .int .u16 h.sum, .int .u16 h.len, .slice va rs.length vc]] w fun e w' => e = .returned (.tuple #[.agg #[.int .u8 0, .slice none 0 0, .int .u32 0, .slice none 0 0, .int .u32 0, .bool false, .int .u32 0, .int .u32 0, .slice none 0 0], .int .i64 28]) ∧ Touch (fun _ => False) w w' := by
  have HV' : Hid (ArgAt w (.slice va rs.length vc) rs) := hv
  have hw64 : IntKind.i64.wrap h.len = h.len := by have := ok.l; simp [IntKind.wrap, IntKind.bits, IntKind.signed]; omega
  have hnn : (rs.length : Int) ≤ 131072 := by omega
  have HKN := fun w => rknown_any h.typ ok.t.1 w
  clear hv ok
  have HLN : Hid (h.len = 20 + (rs.length : Int)) := hlen
  clear hlen
  have hlen' : IntKind.i64.wrap (20 + (rs.length : Int)) = 20 + (rs.length : Int) := by simp [IntKind.wrap, IntKind.bits, IntKind.signed]; omega
  have HK : Hid (knownB h.typ = true) := hk
  clear hk
  unfold BV.v at HR
  subst ho
  go_enter Tryz.func18, Tryz.ntmps18
  go_upto_region 1 with fail
  have z1 : (w.alloc (.cells #[.int .u16 h.age, .int .u8 h.opts, .int .u8 h.typ, .int .u32 h.id, .int .u32 h.adv, .int .i32 h.seq, .int .u16 h.sum, .int .u16 h.len, .slice va rs.length vc] 35)).heap.size = w.heap.size + 1 := by simp [go_sem]
  have K0 : Hid (Sd ((w.alloc (.cells #[.int .u16 h.age, .int .u8 h.opts, .int .u8 h.typ, .int .u32 h.id, .int .u32 h.adv, .int .i32 h.seq, .int .u16 h.sum, .int .u16 h.len, .slice va rs.length vc] 35)).alloc (.cells #[.int .u8 0, .slice none 0 0, .int .u32 0, .slice none 0 0, .int .u32 0, .bool false, .int .u32 0, .int .u32 0, .slice none 0 0] 30)) w.heap.size h (.slice va rs.length vc)) := (Sd.new w h _ _).keep ((Touch.refl _ _).alloc _)
  have R0 : Hid (OutB ((w.alloc (.cells #[.int .u16 h.age, .int .u8 h.opts, .int .u8 h.typ, .int .u32 h.id, .int .u32 h.adv, .int .i32 h.seq, .int .u16 h.sum, .int .u16 h.len, .slice va rs.length vc] 35)).alloc (.cells #[.int .u8 0, .slice none 0 0, .int .u32 0, .slice none 0 0, .int .u32 0, .bool false, .int .u32 0, .int .u32 0, .slice none 0 0] 30)) (w.heap.size + 1) BV.zero (.slice none 0 0) (.slice none 0 0) (.slice none 0 0)) := z1 ▸ OutB.new (w.alloc (.cells #[.int .u16 h.age, .int .u8 h.opts, .int .u8 h.typ, .int .u32 h.id, .int .u32 h.adv, .int .i32 h.seq, .int .u16 h.sum, .int .u16 h.len, .slice va rs.length vc] 35)) BV.zero _ _ _ _
  have T0 : Hid (Touch (fun _ => False) w ((w.alloc (.cells #[.int .u16 h.age, .int .u8 h.opts, .int .u8 h.typ, .int .u32 h.id, .int .u32 h.adv, .int .i32 h.seq, .int .u16 h.sum, .int .u16 h.len, .slice va rs.length vc] 35)).alloc (.cells #[.int .u8 0, .slice none 0 0, .int .u32 0, .slice none 0 0, .int .u32 0, .bool false, .int .u32 0, .int .u32 0, .slice none 0 0] 30))) := ((Touch.refl _ _).alloc _).alloc _
  clear z1
  generalize (w.alloc (.cells #[.int .u16 h.age, .int .u8 h.opts, .int .u8 h.typ, .int .u32 h.id, .int .u32 h.adv, .int .i32 h.seq, .int .u16 h.sum, .int .u16 h.len, .slice va rs.length vc] 35)).alloc (.cells #[.int .u8 0, .slice none 0 0, .int .u32 0, .slice none 0 0, .int .u32 0, .bool false, .int .u32 0, .int .u32 0, .slice none 0 0] 30) = wa at K0 R0 T0 ⊢
  obtain ⟨g1, hg1⟩ : ∃ g, w.heap.size = g := ⟨_, rfl⟩
  have HG1 : Hid (w.heap.size = g1) := hg1
  rw [hg1] at K0 R0 ⊢
  clear hg1
  obtain ⟨⟨c0, c1, c2, c3, c4, c5, c6, c7⟩, c8⟩ := K0.out
  have hlen := HLN.out
  go_wp2_with fail
  refine Calls.mono (HKN _) ?_
  rw [HK.out]
  rintro e w1 ⟨rfl, rfl⟩
  clear HKN hlen
  go_wp2_with fail
  refine Calls.mono (HR _ T0.out) ?_
  rintro e w1 ⟨vl, vr, vd, rfl, bo, t1⟩
  obtain ⟨a1, q1, a3, q3, a8, q8, rfl, rfl, rfl⟩ := bo.form
  have K1 : Hid (Sd (w1.alloc (.cells #[.int .u8 B.flags, .slice a1 B.links.length q1, .int .u32 B.mask, .slice a3 B.routers.length q3, .int .u32 B.metric, .bool B.type2, .int .u32 B.fwd, .int .u32 B.tag, .slice a8 B.data.length q8] 30)) g1 h (.slice va rs.length vc)) := K0.out.keep (t1.alloc _)
  have R1 : Hid (OutB (w1.alloc (.cells #[.int .u8 B.flags, .slice a1 B.links.length q1, .int .u32 B.mask, .slice a3 B.routers.length q3, .int .u32 B.metric, .bool B.type2, .int .u32 B.fwd, .int .u32 B.tag, .slice a8 B.data.length q8] 30)) (g1 + 1) BV.zero (.slice none 0 0) (.slice none 0 0) (.slice none 0 0)) := R0.out.keep (t1.alloc _)
  have D1 : Hid (Bd (w1.alloc (.cells #[.int .u8 B.flags, .slice a1 B.links.length q1, .int .u32 B.mask, .slice a3 B.routers.length q3, .int .u32 B.metric, .bool B.type2, .int .u32 B.fwd, .int .u32 B.tag, .slice a8 B.data.length q8] 30)) w1.heap.size B (.slice a1 B.links.length q1) (.slice a3 B.routers.length q3) (.slice a8 B.data.length q8)) := Bd.new w1 B _ _ _ _
  have T1 : Hid (Touch (fun _ => False) w (w1.alloc (.cells #[.int .u8 B.flags, .slice a1 B.links.length q1, .int .u32 B.mask, .slice a3 B.routers.length q3, .int .u32 B.metric, .bool B.type2, .int .u32 B.fwd, .int .u32 B.tag, .slice a8 B.data.length q8] 30))) := T0.out.trans (t1.alloc _)
  have BO : Hid (BOwn wa.heap.size (w1.alloc (.cells #[.int .u8 B.flags, .slice a1 B.links.length q1, .int .u32 B.mask, .slice a3 B.routers.length q3, .int .u32 B.metric, .bool B.type2, .int .u32 B.fwd, .int .u32 B.tag, .slice a8 B.data.length q8] 30)) B (.slice a1 B.links.length q1) (.slice a3 B.routers.length q3) (.slice a8 B.data.length q8)) := bo.keep ((Touch.refl _ _).alloc _)
  have Z1 : Hid (w.heap.size ≤ wa.heap.size ∧ g1 + 1 < wa.heap.size ∧ wa.heap.size ≤ w1.heap.size) := ⟨T0.out.size, R0.out.lt, t1.size⟩
  clear c0 c1 c2 c3 c4 c5 c6 c7 c8 bo t1 K0 R0 HR
  go_upto_region 6 with fail
  generalize w1.alloc (.cells #[.int .u8 B.flags, .slice a1 B.links.length q1, .int .u32 B.mask, .slice a3 B.routers.length q3, .int .u32 B.metric, .bool B.type2, .int .u32 B.fwd, .int .u32 B.tag, .slice a8 B.data.length q8] 30) = x1 at *
  generalize w1.heap.size = g4 at *
  obtain ⟨⟨c0, c1, c2, c3, c4, c5, c6, c7⟩, c8⟩ := K1.out
  obtain ⟨⟨r0, r1, r2, r3, r4, r5, r6, r7, r8⟩, fr⟩ := R1.out
  have f0 := fr 0 (by omega)
  have f1 := fr 1 (by omega)
  have f2 := fr 2 (by omega)
  have f3 := fr 3 (by omega)
  have f4 := fr 4 (by omega)
  have f5 := fr 5 (by omega)
  have f6 := fr 6 (by omega)
  have f7 := fr 7 (by omega)
  have f8 := fr 8 (by omega)
  clear fr
  dsimp only [BV.zero] at r0 r1 r2 r3 r4 r5 r6 r7 r8
  go_wp2_with fail
  refine bodyPost_ret (v := .tuple #[.agg #[.int .u8 0, .slice none 0 0, .int .u32 0, .slice none 0 0, .int .u32 0, .bool false, .int .u32 0, .int .u32 0, .slice none 0 0], .int .i64 28]) (by simp [results, Tryz.results18, go_sem, r0, r1, r2, r3, r4, r5, r6, r7, r8]) rfl ⟨rfl, ?_⟩
  have hge : False ∨ w.heap.size ≤ g1 + 1 := Or.inr (by have := HG1.out; omega)
  exact (((((((((T1.out).setCell hge _).setCell hge _).setCell hge _).setCell hge _).setCell hge _).setCell hge _).setCell hge _).setCell hge _).setCell hge _

set_option maxHeartbeats 2000000 in
theorem rdec_may (h : HV) (ok : h.All) (va : Option Addr) (vc : Nat) (rs : List Int) (w : World) (hv : ArgAt w (.slice va rs.length vc) rs) (hn : rs.length ≤ 131072) (hlen : h.len = 20 + (rs.length : Int)) (hk : knownB h.typ = true) (B : BV) (okr : Bool) (HR : ∀ w', Touch (fun _ => False) w w' → Calls Tryz.prog 74 #[.int .u8 h.typ, .slice va rs.length vc] w' fun e w'' => ∃ vl vr vd, e = .returned (.tuple #[B.v vl vr vd, .bool okr]) ∧ BOwn w'.heap.size w'' B vl vr vd ∧ Touch (fun _ => False) w' w'') (okm : Bool) (HM : ∀ vl vr vd w', BArg w' B vl vr vd → Calls Tryz.prog 41 #[.int .u8 h.typ, B.v vl vr vd] w' fun e w'' => e = .returned (.bool okm) ∧ Touch (fun _ => False) w' w'') (ho : okr = true) (hm : okm = false) :
    Calls Tryz.prog 18 #[.agg #[.int .u16 h.age, .int .u8 h.opts, .int .u8 h.typ, .int .u32 h.id, .int .u32 h.adv, .int .i32 h.seq, .int .u16 h.sum, .int .u16 h.len, .slice va rs.length vc]] w fun e w' => e = .returned (.tuple #[.agg #[.int .u8 0, .slice none 0 0, .int .u32 0, .slice none 0 0, .int .u32 0, .bool false, .int .u32 0, .int .u32 0, .slice none 0 0], .int .i64 28]) ∧ Touch (fun _ => False) w w' := by
  have HV' : Hid (ArgAt w (.slice va rs.length vc) rs) := hv
  have hw64 : IntKind.i64.wrap h.len = h.len := by have := ok.l; simp [IntKind.wrap, IntKind.bits, IntKind.signed]; omega
  have hnn : (rs.length : Int) ≤ 131072 := by omega
  have HKN := fun w => rknown_any h.typ ok.t.1 w
  clear hv ok
  have HLN : Hid (h.len = 20 + (rs.length : Int)) := hlen
  clear hlen
  have hlen' : IntKind.i64.wrap (20 + (rs.length : Int)) = 20 + (rs.length : Int) := by simp [IntKind.wrap, IntKind.bits, IntKind.signed]; omega
  have HK : Hid (knownB h.typ = true) := hk
  clear hk
  unfold BV.v at HR HM
  subst ho
  subst hm
  go_enter Tryz.func18, Tryz.ntmps18
  go_upto_region 1 with fail
  have z1 : (w.alloc (.cells #[.int .u16 h.age, .int .u8 h.opts, .int .u8 h.typ, .int .u32 h.id, .int .u32 h.adv, .int .i32 h.seq, .int .u16 h.sum, .int .u16 h.len, .slice va rs.length vc] 35)).heap.size = w.heap.size + 1 := by simp [go_sem]
  have K0 : Hid (Sd ((w.alloc (.cells #[.int .u16 h.age, .int .u8 h.opts, .int .u8 h.typ, .int .u32 h.id, .int .u32 h.adv, .int .i32 h.seq, .int .u16 h.sum, .int .u16 h.len, .slice va rs.length vc] 35)).alloc (.cells #[.int .u8 0, .slice none 0 0, .int .u32 0, .slice none 0 0, .int .u32 0, .bool false, .int .u32 0, .int .u32 0, .slice none 0 0] 30)) w.heap.size h (.slice va rs.length vc)) := (Sd.new w h _ _).keep ((Touch.refl _ _).alloc _)
  have R0 : Hid (OutB ((w.alloc (.cells #[.int .u16 h.age, .int .u8 h.opts, .int .u8 h.typ, .int .u32 h.id, .int .u32 h.adv, .int .i32 h.seq, .int .u16 h.sum, .int .u16 h.len, .slice va rs.length vc] 35)).alloc (.cells #[.int .u8 0, .slice none 0 0, .int .u32 0, .slice none 0 0, .int .u32 0, .bool false, .int .u32 0, .int .u32 0, .slice none 0 0] 30)) (w.heap.size + 1) BV.zero (.slice none 0 0) (.slice none 0 0) (.slice none 0 0)) := z1 ▸ OutB.new (w.alloc (.cells #[.int .u16 h.age, .int .u8 h.opts, .int .u8 h.typ, .int .u32 h.id, .int .u32 h.adv, .int .i32 h.seq, .int .u16 h.sum, .int .u16 h.len, .slice va rs.length vc] 35)) BV.zero _ _ _ _
  have T0 : Hid (Touch (fun _ => False) w ((w.alloc (.cells #[.int .u16 h.age, .int .u8 h.opts, .int .u8 h.typ, .int .u32 h.id, .int .u32 h.adv, .int .i32 h.seq, .int .u16 h.sum, .int .u16 h.len, .slice va rs.length vc] 35)).alloc (.cells #[.int .u8 0, .slice none 0 0, .int .u32 0, .slice none 0 0, .int .u32 0, .bool false, .int .u32 0, .int .u32 0, .slice none 0 0] 30))) := ((Touch.refl _ _).alloc _).alloc _
  clear z1
  generalize (w.alloc (.cells #[.int .u16 h.age, .int .u8 h.opts, .int .u8 h.typ, .int .u32 h.id, .int .u32 h.adv, .int .i32 h.seq, .int .u16 h.sum, .int .u16 h.len, .slice va rs.length vc] 35)).alloc (.cells #[.int .u8 0, .slice none 0 0, .int .u32 0, .slice none 0 0, .int .u32 0, .bool false, .int .u32 0, .int .u32 0, .slice none 0 0] 30) = wa at K0 R0 T0 ⊢
  obtain ⟨g1, hg1⟩ : ∃ g, w.heap.size = g := ⟨_, rfl⟩
  have HG1 : Hid (w.heap.size = g1) := hg1
  rw [hg1] at K0 R0 ⊢
  clear hg1
  obtain ⟨⟨c0, c1, c2, c3, c4, c5, c6, c7⟩, c8⟩ := K0.out
  have hlen := HLN.out
  go_wp2_with fail
  refine Calls.mono (HKN _) ?_
  rw [HK.out]
  rintro e w1 ⟨rfl, rfl⟩
  clear HKN hlen
  go_wp2_with fail
  refine Calls.mono (HR _ T0.out) ?_
  rintro e w1 ⟨vl, vr, vd, rfl, bo, t1⟩
  obtain ⟨a1, q1, a3, q3, a8, q8, rfl, rfl, rfl⟩ := bo.form
  have K1 : Hid (Sd (w1.alloc (.cells #[.int .u8 B.flags, .slice a1 B.links.length q1, .int .u32 B.mask, .slice a3 B.routers.length q3, .int .u32 B.metric, .bool B.type2, .int .u32 B.fwd, .int .u32 B.tag, .slice a8 B.data.length q8] 30)) g1 h (.slice va rs.length vc)) := K0.out.keep (t1.alloc _)
  have R1 : Hid (OutB (w1.alloc (.cells #[.int .u8 B.flags, .slice a1 B.links.length q1, .int .u32 B.mask, .slice a3 B.routers.length q3, .int .u32 B.metric, .bool B.type2, .int .u32 B.fwd, .int .u32 B.tag, .slice a8 B.data.length q8] 30)) (g1 + 1) BV.zero (.slice none 0 0) (.slice none 0 0) (.slice none 0 0)) := R0.out.keep (t1.alloc _)
  have D1 : Hid (Bd (w1.alloc (.cells #[.int .u8 B.flags, .slice a1 B.links.length q1, .int .u32 B.mask, .slice a3 B.routers.length q3, .int .u32 B.metric, .bool B.type2, .int .u32 B.fwd, .int .u32 B.tag, .slice a8 B.data.length q8] 30)) w1.heap.size B (.slice a1 B.links.length q1) (.slice a3 B.routers.length q3) (.slice a8 B.data.length q8)) := Bd.new w1 B _ _ _ _
  have T1 : Hid (Touch (fun _ => False) w (w1.alloc (.cells #[.int .u8 B.flags, .slice a1 B.links.length q1, .int .u32 B.mask, .slice a3 B.routers.length q3, .int .u32 B.metric, .bool B.type2, .int .u32 B.fwd, .int .u32 B.tag, .slice a8 B.data.length q8] 30))) := T0.out.trans (t1.alloc _)
  have BO : Hid (BOwn wa.heap.size (w1.alloc (.cells #[.int .u8 B.flags, .slice a1 B.links.length q1, .int .u32 B.mask, .slice a3 B.routers.length q3, .int .u32 B.metric, .bool B.type2, .int .u32 B.fwd, .int .u32 B.tag, .slice a8 B.data.length q8] 30)) B (.slice a1 B.links.length q1) (.slice a3 B.routers.length q3) (.slice a8 B.data.length q8)) := bo.keep ((Touch.refl _ _).alloc _)
  have Z1 : Hid (w.heap.size ≤ wa.heap.size ∧ g1 + 1 < wa.heap.size ∧ wa.heap.size ≤ w1.heap.size) := ⟨T0.out.size, R0.out.lt, t1.size⟩
  clear c0 c1 c2 c3 c4 c5 c6 c7 c8 bo t1 K0 R0 HR
  go_upto_region 6 with fail
  generalize w1.alloc (.cells #[.int .u8 B.flags, .slice a1 B.links.length q1, .int .u32 B.mask, .slice a3 B.routers.length q3, .int .u32 B.metric, .bool B.type2, .int .u32 B.fwd, .int .u32 B.tag, .slice a8 B.data.length q8] 30) = x1 at *
  generalize w1.heap.size = g4 at *
  obtain ⟨⟨c0, c1, c2, c3, c4, c5, c6, c7⟩, c8⟩ := K1.out
  obtain ⟨d0, d1, d2, d3, d4, d5, d6, d7, d8⟩ := D1.out
  go_wp2_with fail
  refine Calls.mono (HM _ _ _ _ BO.out.arg) ?_
  rintro e w2 ⟨rfl, t2⟩
  have K2 : Hid (Sd w2 g1 h (.slice va rs.length vc)) := K1.out.keep t2
  have R2 : Hid (OutB w2 (g1 + 1) BV.zero (.slice none 0 0) (.slice none 0 0) (.slice none 0 0)) := R1.out.keep t2
  have D2 : Hid (Bd w2 g4 B (.slice a1 B.links.length q1) (.slice a3 B.routers.length q3) (.slice a8 B.data.length q8)) := D1.out.keep t2
  have T2 : Hid (Touch (fun _ => False) w w2) := T1.out.trans t2
  have BO2 : Hid (BOwn wa.heap.size w2 B (.slice a1 B.links.length q1) (.slice a3 B.routers.length q3) (.slice a8 B.data.length q8)) := BO.out.keep t2
  clear c0 c1 c2 c3 c4 c5 c6 c7 c8 d0 d1 d2 d3 d4 d5 d6 d7 d8 t2 K1 R1 D1 T1 BO HM
  obtain ⟨⟨c0, c1, c2, c3, c4, c5, c6, c7⟩, c8⟩ := K2.out
  obtain ⟨⟨r0, r1, r2, r3, r4, r5, r6, r7, r8⟩, fr⟩ := R2.out
  have f0 := fr 0 (by omega)
  have f1 := fr 1 (by omega)
  have f2 := fr 2 (by omega)
  have f3 := fr 3 (by omega)
  have f4 := fr 4 (by omega)
  have f5 := fr 5 (by omega)
  have f6 := fr 6 (by omega)
  have f7 := fr 7 (by omega)
  have f8 := fr 8 (by omega)
  clear fr
  dsimp only [BV.zero] at r0 r1 r2 r3 r4 r5 r6 r7 r8
  go_wp2_with fail
  refine bodyPost_ret (v := .tuple #[.agg #[.int .u8 0, .slice none 0 0, .int .u32 0, .slice none 0 0, .int .u32 0, .bool false, .int .u32 0, .int .u32 0, .slice none 0 0], .int .i64 28]) (by simp [results, Tryz.results18, go_sem, r0, r1, r2, r3, r4, r5, r6, r7, r8]) rfl ⟨rfl, ?_⟩
  have hge : False ∨ w.heap.size ≤ g1 + 1 := Or.inr (by have := HG1.out; omega)
  exact (((((((((T2.out).setCell hge _).setCell hge _).setCell hge _).setCell hge _).setCell hge _).setCell hge _).setCell hge _).setCell hge _).setCell hge _

set_option maxHeartbeats 2000000 in
theorem rdec_size (h : HV) (ok : h.All) (va : Option Addr) (vc : Nat) (rs : List Int) (w : World) (hv : ArgAt w (.slice va rs.length vc) rs) (hn : rs.length ≤ 131072) (hlen : h.len = 20 + (rs.length : Int)) (hk : knownB h.typ = true) (B : BV) (okr : Bool) (HR : ∀ w', Touch (fun _ => False) w w' → Calls Tryz.prog 74 #[.int .u8 h.typ, .slice va rs.length vc] w' fun e w'' => ∃ vl vr vd, e = .returned (.tuple #[B.v vl vr vd, .bool okr]) ∧ BOwn w'.heap.size w'' B vl vr vd ∧ Touch (fun _ => False) w' w'') (okm : Bool) (HM : ∀ vl vr vd w', BArg w' B vl vr vd → Calls Tryz.prog 41 #[.int .u8 h.typ, B.v vl vr vd] w' fun e w'' => e = .returned (.bool okm) ∧ Touch (fun _ => False) w' w'') (L : List Int) (HL : ∀ vl vr vd w', BArg w' B vl vr vd → Calls Tryz.prog 43 #[.int .u8 h.typ, B.v vl vr vd] w' fun e w'' => ∃ v, e = .returned v ∧ Buf w' w'' v L) (ho : okr = true) (hm : okm = true) (hs : L.length ≠ rs.length) :
    Calls Tryz.prog 18 #[.agg #[.int .u16 h.age, .int .u8 h.opts, .int .u8 h.typ, .int .u32 h.id, .int .u32 h.adv, .int .i32 h.seq, .int .u16 h.sum, .int .u16 h.len, .slice va rs.length vc]] w fun e w' => e = .returned (.tuple #[.agg #[.int .u8 0, .slice none 0 0, .int .u32 0, .slice none 0 0, .int .u32 0, .bool false, .int .u32 0, .int .u32 0, .slice none 0 0], .int .i64 28]) ∧ Touch (fun _ => False) w w' := by
  have HV' : Hid (ArgAt w (.slice va rs.length vc) rs) := hv
  have hw64 : IntKind.i64.wrap h.len = h.len := by have := ok.l; simp [IntKind.wrap, IntKind.bits, IntKind.signed]; omega
  have hnn : (rs.length : Int) ≤ 131072 := by omega
  have HKN := fun w => rknown_any h.typ ok.t.1 w
  clear hv ok
  have HLN : Hid (h.len = 20 + (rs.length : Int)) := hlen
  clear hlen
  have hlen' : IntKind.i64.wrap (20 + (rs.length : Int)) = 20 + (rs.length : Int) := by simp [IntKind.wrap, IntKind.bits, IntKind.signed]; omega
  have HK : Hid (knownB h.typ = true) := hk
  clear hk
  unfold BV.v at HR HM HL
  have hs' : ¬ ((L.length : Int) = (rs.length : Int)) := by omega
  subst ho
  subst hm
  go_enter Tryz.func18, Tryz.ntmps18
  go_upto_region 1 with fail
  have z1 : (w.alloc (.cells #[.int .u16 h.age, .int .u8 h.opts, .int .u8 h.typ, .int .u32 h.id, .int .u32 h.adv, .int .i32 h.seq, .int .u16 h.sum, .int .u16 h.len, .slice va rs.length vc] 35)).heap.size = w.heap.size + 1 := by simp [go_sem]
  have K0 : Hid (Sd ((w.alloc (.cells #[.int .u16 h.age, .int .u8 h.opts, .int .u8 h.typ, .int .u32 h.id, .int .u32 h.adv, .int .i32 h.seq, .int .u16 h.sum, .int .u16 h.len, .slice va rs.length vc] 35)).alloc (.cells #[.int .u8 0, .slice none 0 0, .int .u32 0, .slice none 0 0, .int .u32 0, .bool false, .int .u32 0, .int .u32 0, .slice none 0 0] 30)) w.heap.size h (.slice va rs.length vc)) := (Sd.new w h _ _).keep ((Touch.refl _ _).alloc _)
  have R0 : Hid (OutB ((w.alloc (.cells #[.int .u16 h.age, .int .u8 h.opts, .int .u8 h.typ, .int .u32 h.id, .int .u32 h.adv, .int .i32 h.seq, .int .u16 h.sum, .int .u16 h.len, .slice va rs.length vc] 35)).alloc (.cells #[.int .u8 0, .slice none 0 0, .int .u32 0, .slice none 0 0, .int .u32 0, .bool false, .int .u32 0, .int .u32 0, .slice none 0 0] 30)) (w.heap.size + 1) BV.zero (.slice none 0 0) (.slice none 0 0) (.slice none 0 0)) := z1 ▸ OutB.new (w.alloc (.cells #[.int .u16 h.age, .int .u8 h.opts, .int .u8 h.typ, .int .u32 h.id, .int .u32 h.adv, .int .i32 h.seq, .int .u16 h.sum, .int .u16 h.len, .slice va rs.length vc] 35)) BV.zero _ _ _ _
  have T0 : Hid (Touch (fun _ => False) w ((w.alloc (.cells #[.int .u16 h.age, .int .u8 h.opts, .int .u8 h.typ, .int .u32 h.id, .int .u32 h.adv, .int .i32 h.seq, .int .u16 h.sum, .int .u16 h.len, .slice va rs.length vc] 35)).alloc (.cells #[.int .u8 0, .slice none 0 0, .int .u32 0, .slice none 0 0, .int .u32 0, .bool false, .int .u32 0, .int .u32 0, .slice none 0 0] 30))) := ((Touch.refl _ _).alloc _).alloc _
  clear z1
  generalize (w.alloc (.cells #[.int .u16 h.age, .int .u8 h.opts, .int .u8 h.typ, .int .u32 h.id, .int .u32 h.adv, .int .i32 h.seq, .int .u16 h.sum, .int .u16 h.len, .slice va rs.length vc] 35)).alloc (.cells #[.int .u8 0, .slice none 0 0, .int .u32 0, .slice none 0 0, .int .u32 0, .bool false, .int .u32 0, .int .u32 0, .slice none 0 0] 30) = wa at K0 R0 T0 ⊢
  obtain ⟨g1, hg1⟩ : ∃ g, w.heap.size = g := ⟨_, rfl⟩
  have HG1 : Hid (w.heap.size = g1) := hg1
  rw [hg1] at K0 R0 ⊢
  clear hg1
  obtain ⟨⟨c0, c1, c2, c3, c4, c5, c6, c7⟩, c8⟩ := K0.out
  have hlen := HLN.out
  go_wp2_with fail
  refine Calls.mono (HKN _) ?_
  rw [HK.out]
  rintro e w1 ⟨rfl, rfl⟩
  clear HKN hlen
  go_wp2_with fail
  refine Calls.mono (HR _ T0.out) ?_
  rintro e w1 ⟨vl, vr, vd, rfl, bo, t1⟩
  obtain ⟨a1, q1, a3, q3, a8, q8, rfl, rfl, rfl⟩ := bo.form
  have K1 : Hid (Sd (w1.alloc (.cells #[.int .u8 B.flags, .slice a1 B.links.length q1, .int .u32 B.mask, .slice a3 B.routers.length q3, .int .u32 B.metric, .bool B.type2, .int .u32 B.fwd, .int .u32 B.tag, .slice a8 B.data.length q8] 30)) g1 h (.slice va rs.length vc)) := K0.out.keep (t1.alloc _)
  have R1 : Hid (OutB (w1.alloc (.cells #[.int .u8 B.flags, .slice a1 B.links.length q1, .int .u32 B.mask, .slice a3 B.routers.length q3, .int .u32 B.metric, .bool B.type2, .int .u32 B.fwd, .int .u32 B.tag, .slice a8 B.data.length q8] 30)) (g1 + 1) BV.zero (.slice none 0 0) (.slice none 0 0) (.slice none 0 0)) := R0.out.keep (t1.alloc _)
  have D1 : Hid (Bd (w1.alloc (.cells #[.int .u8 B.flags, .slice a1 B.links.length q1, .int .u32 B.mask, .slice a3 B.routers.length q3, .int .u32 B.metric, .bool B.type2, .int .u32 B.fwd, .int .u32 B.tag, .slice a8 B.data.length q8] 30)) w1.heap.size B (.slice a1 B.links.length q1) (.slice a3 B.routers.length q3) (.slice a8 B.data.length q8)) := Bd.new w1 B _ _ _ _
  have T1 : Hid (Touch (fun _ => False) w (w1.alloc (.cells #[.int .u8 B.flags, .slice a1 B.links.length q1, .int .u32 B.mask, .slice a3 B.routers.length q3, .int .u32 B.metric, .bool B.type2, .int .u32 B.fwd, .int .u32 B.tag, .slice a8 B.data.length q8] 30))) := T0.out.trans (t1.alloc _)
  have BO : Hid (BOwn wa.heap.size (w1.alloc (.cells #[.int .u8 B.flags, .slice a1 B.links.length q1, .int .u32 B.mask, .slice a3 B.routers.length q3, .int .u32 B.metric, .bool B.type2, .int .u32 B.fwd, .int .u32 B.tag, .slice a8 B.data.length q8] 30)) B (.slice a1 B.links.length q1) (.slice a3 B.routers.length q3) (.slice a8 B.data.length q8)) := bo.keep ((Touch.refl _ _).alloc _)
  have Z1 : Hid (w.heap.size ≤ wa.heap.size ∧ g1 + 1 < wa.heap.size ∧ wa.heap.size ≤ w1.heap.size) := ⟨T0.out.size, R0.out.lt, t1.size⟩
  clear c0 c1 c2 c3 c4 c5 c6 c7 c8 bo t1 K0 R0 HR
  go_upto_region 6 with fail
  generalize w1.alloc (.cells #[.int .u8 B.flags, .slice a1 B.links.length q1, .int .u32 B.mask, .slice a3 B.routers.length q3, .int .u32 B.metric, .bool B.type2, .int .u32 B.fwd, .int .u32 B.tag, .slice a8 B.data.length q8] 30) = x1 at *
  generalize w1.heap.size = g4 at *
  obtain ⟨⟨c0, c1, c2, c3, c4, c5, c6, c7⟩, c8⟩ := K1.out
  obtain ⟨d0, d1, d2, d3, d4, d5, d6, d7, d8⟩ := D1.out
  go_wp2_with fail
  refine Calls.mono (HM _ _ _ _ BO.out.arg) ?_
  rintro e w2 ⟨rfl, t2⟩
  have K2 : Hid (Sd w2 g1 h (.slice va rs.length vc)) := K1.out.keep t2
  have R2 : Hid (OutB w2 (g1 + 1) BV.zero (.slice none 0 0) (.slice none 0 0) (.slice none 0 0)) := R1.out.keep t2
  have D2 : Hid (Bd w2 g4 B (.slice a1 B.links.length q1) (.slice a3 B.routers.length q3) (.slice a8 B.data.length q8)) := D1.out.keep t2
  have T2 : Hid (Touch (fun _ => False) w w2) := T1.out.trans t2
  have BO2 : Hid (BOwn wa.heap.size w2 B (.slice a1 B.links.length q1) (.slice a3 B.routers.length q3) (.slice a8 B.data.length q8)) := BO.out.keep t2
  clear c0 c1 c2 c3 c4 c5 c6 c7 c8 d0 d1 d2 d3 d4 d5 d6 d7 d8 t2 K1 R1 D1 T1 BO HM
  obtain ⟨⟨c0, c1, c2, c3, c4, c5, c6, c7⟩, c8⟩ := K2.out
  obtain ⟨d0, d1, d2, d3, d4, d5, d6, d7, d8⟩ := D2.out
  go_wp2_with fail
  refine Calls.mono (HL _ _ _ _ BO2.out.arg) ?_
  rintro e w3 ⟨lv, rfl, b3⟩
  obtain ⟨la, lc, rfl⟩ := b3.form
  have K3 : Hid (Sd w3 g1 h (.slice va rs.length vc)) := K2.out.keep b3.t
  have R3 : Hid (OutB w3 (g1 + 1) BV.zero (.slice none 0 0) (.slice none 0 0) (.slice none 0 0)) := R2.out.keep b3.t
  have D3 : Hid (Bd w3 g4 B (.slice a1 B.links.length q1) (.slice a3 B.routers.length q3) (.slice a8 B.data.length q8)) := D2.out.keep b3.t
  have T3 : Hid (Touch (fun _ => False) w w3) := T2.out.trans b3.t
  have BO3 : Hid (BOwn wa.heap.size w3 B (.slice a1 B.links.length q1) (.slice a3 B.routers.length q3) (.slice a8 B.data.length q8)) := BO2.out.keep b3.t
  have L3 : Hid (ArgAt w3 (.slice la L.length lc) L) := b3.arg
  clear c0 c1 c2 c3 c4 c5 c6 c7 c8 d0 d1 d2 d3 d4 d5 d6 d7 d8 b3 K2 R2 D2 T2 BO2 HL
  obtain ⟨⟨c0, c1, c2, c3, c4, c5, c6, c7⟩, c8⟩ := K3.out
  obtain ⟨⟨r0, r1, r2, r3, r4, r5, r6, r7, r8⟩, fr⟩ := R3.out
  have f0 := fr 0 (by omega)
  have f1 := fr 1 (by omega)
  have f2 := fr 2 (by omega)
  have f3 := fr 3 (by omega)
  have f4 := fr 4 (by omega)
  have f5 := fr 5 (by omega)
  have f6 := fr 6 (by omega)
  have f7 := fr 7 (by omega)
  have f8 := fr 8 (by omega)
  clear fr
  dsimp only [BV.zero] at r0 r1 r2 r3 r4 r5 r6 r7 r8
  go_wp2_with fail
  refine bodyPost_ret (v := .tuple #[.agg #[.int .u8 0, .slice none 0 0, .int .u32 0, .slice none 0 0, .int .u32 0, .bool false, .int .u32 0, .int .u32 0, .slice none 0 0], .int .i64 28]) (by simp [results, Tryz.results18, go_sem, r0, r1, r2, r3, r4, r5, r6, r7, r8]) rfl ⟨rfl, ?_⟩
  have hge : False ∨ w.heap.size ≤ g1 + 1 := Or.inr (by have := HG1.out; omega)
  exact (((((((((T3.out).setCell hge _).setCell hge _).setCell hge _).setCell hge _).setCell hge _).setCell hge _).setCell hge _).setCell hge _).setCell hge _

theorem getD_same {l r : List Int} (hl : l.length = r.length) (h : ∀ j, j < l.length → l.getD j 0 = r.getD j 0) : l = r := by
  apply List.ext_getElem?
  intro j
  by_cases hj : j < l.length
  · have := h j hj
    simp only [List.getD, List.getElem?_eq_getElem hj, List.getElem?_eq_getElem (hl ▸ hj : j < r.length), Option.getD] at this ⊢
    rw [this]
  · rw [List.getElem?_eq_none (by omega), List.getElem?_eq_none (by omega)]

set_option maxHeartbeats 2000000 in
theorem rdec_loop (h : HV) (ok : h.All) (va : Option Addr) (vc : Nat) (rs : List Int) (w : World) (hv : ArgAt w (.slice va rs.length vc) rs) (hn : rs.length ≤ 131072) (hlen : h.len = 20 + (rs.length : Int)) (hk : knownB h.typ = true) (B : BV) (okr : Bool) (HR : ∀ w', Touch (fun _ => False) w w' → Calls Tryz.prog 74 #[.int .u8 h.typ, .slice va rs.length vc] w' fun e w'' => ∃ vl vr vd, e = .returned (.tuple #[B.v vl vr vd, .bool okr]) ∧ BOwn w'.heap.size w'' B vl vr vd ∧ Touch (fun _ => False) w' w'') (okm : Bool) (HM : ∀ vl vr vd w', BArg w' B vl vr vd → Calls Tryz.prog 41 #[.int .u8 h.typ, B.v vl vr vd] w' fun e w'' => e = .returned (.bool okm) ∧ Touch (fun _ => False) w' w'') (L : List Int) (HL : ∀ vl vr vd w', BArg w' B vl vr vd → Calls Tryz.prog 43 #[.int .u8 h.typ, B.v vl vr vd] w' fun e w'' => ∃ v, e = .returned v ∧ Buf w' w'' v L) (ho : okr = true) (hm : okm = true) (hs : L.length = rs.length) :
    Calls Tryz.prog 18 #[.agg #[.int .u16 h.age, .int .u8 h.opts, .int .u8 h.typ, .int .u32 h.id, .int .u32 h.adv, .int .i32 h.seq, .int .u16 h.sum, .int .u16 h.len, .slice va rs.length vc]] w fun e w' => (∃ vl vr vd, e = .returned (.tuple #[B.v vl vr vd, .int .i64 0]) ∧ BOwn w.heap.size w' B vl vr vd ∧ Touch (fun _ => False) w w' ∧ L = rs) ∨ ((e = .returned (.tuple #[.agg #[.int .u8 0, .slice none 0 0, .int .u32 0, .slice none 0 0, .int .u32 0, .bool false, .int .u32 0, .int .u32 0, .slice none 0 0], .int .i64 28]) ∧ Touch (fun _ => False) w w') ∧ L ≠ rs) := by
  have HV' : Hid (ArgAt w (.slice va rs.length vc) rs) := hv
  have hw64 : IntKind.i64.wrap h.len = h.len := by have := ok.l; simp [IntKind.wrap, IntKind.bits, IntKind.signed]; omega
  have hnn : (rs.length : Int) ≤ 131072 := by omega
  have HKN := fun w => rknown_any h.typ ok.t.1 w
  clear hv ok
  have HLN : Hid (h.len = 20 + (rs.length : Int)) := hlen
  clear hlen
  have hlen' : IntKind.i64.wrap (20 + (rs.length : Int)) = 20 + (rs.length : Int) := by simp [IntKind.wrap, IntKind.bits, IntKind.signed]; omega
  have HK : Hid (knownB h.typ = true) := hk
  clear hk
  have HB : Hid (B.v = fun vl vr vd => .agg #[.int .u8 B.flags, vl, .int .u32 B.mask, vr, .int .u32 B.metric, .bool B.type2, .int .u32 B.fwd, .int .u32 B.tag, vd]) := rfl
  unfold BV.v at HR HM HL
  have HS : Hid (L.length = rs.length) := hs
  have hs' : (L.length : Int) = (rs.length : Int) := by omega
  clear hs
  subst ho
  subst hm
  go_enter Tryz.func18, Tryz.ntmps18
  go_upto_region 1 with fail
  have z1 : (w.alloc (.cells #[.int .u16 h.age, .int .u8 h.opts, .int .u8 h.typ, .int .u32 h.id, .int .u32 h.adv, .int .i32 h.seq, .int .u16 h.sum, .int .u16 h.len, .slice va rs.length vc] 35)).heap.size = w.heap.size + 1 := by simp [go_sem]
  have K0 : Hid (Sd ((w.alloc (.cells #[.int .u16 h.age, .int .u8 h.opts, .int .u8 h.typ, .int .u32 h.id, .int .u32 h.adv, .int .i32 h.seq, .int .u16 h.sum, .int .u16 h.len, .slice va rs.length vc] 35)).alloc (.cells #[.int .u8 0, .slice none 0 0, .int .u32 0, .slice none 0 0, .int .u32 0, .bool false, .int .u32 0, .int .u32 0, .slice none 0 0] 30)) w.heap.size h (.slice va rs.length vc)) := (Sd.new w h _ _).keep ((Touch.refl _ _).alloc _)
  have R0 : Hid (OutB ((w.alloc (.cells #[.int .u16 h.age, .int .u8 h.opts, .int .u8 h.typ, .int .u32 h.id, .int .u32 h.adv, .int .i32 h.seq, .int .u16 h.sum, .int .u16 h.len, .slice va rs.length vc] 35)).alloc (.cells #[.int .u8 0, .slice none 0 0, .int .u32 0, .slice none 0 0, .int .u32 0, .bool false, .int .u32 0, .int .u32 0, .slice none 0 0] 30)) (w.heap.size + 1) BV.zero (.slice none 0 0) (.slice none 0 0) (.slice none 0 0)) := z1 ▸ OutB.new (w.alloc (.cells #[.int .u16 h.age, .int .u8 h.opts, .int .u8 h.typ, .int .u32 h.id, .int .u32 h.adv, .int .i32 h.seq, .int .u16 h.sum, .int .u16 h.len, .slice va rs.length vc] 35)) BV.zero _ _ _ _
  have T0 : Hid (Touch (fun _ => False) w ((w.alloc (.cells #[.int .u16 h.age, .int .u8 h.opts, .int .u8 h.typ, .int .u32 h.id, .int .u32 h.adv, .int .i32 h.seq, .int .u16 h.sum, .int .u16 h.len, .slice va rs.length vc] 35)).alloc (.cells #[.int .u8 0, .slice none 0 0, .int .u32 0, .slice none 0 0, .int .u32 0, .bool false, .int .u32 0, .int .u32 0, .slice none 0 0] 30))) := ((Touch.refl _ _).alloc _).alloc _
  clear z1
  generalize (w.alloc (.cells #[.int .u16 h.age, .int .u8 h.opts, .int .u8 h.typ, .int .u32 h.id, .int .u32 h.adv, .int .i32 h.seq, .int .u16 h.sum, .int .u16 h.len, .slice va rs.length vc] 35)).alloc (.cells #[.int .u8 0, .slice none 0 0, .int .u32 0, .slice none 0 0, .int .u32 0, .bool false, .int .u32 0, .int .u32 0, .slice none 0 0] 30) = wa at K0 R0 T0 ⊢
  obtain ⟨g1, hg1⟩ : ∃ g, w.heap.size = g := ⟨_, rfl⟩
  have HG1 : Hid (w.heap.size = g1) := hg1
  rw [hg1] at K0 R0 ⊢
  clear hg1
  obtain ⟨⟨c0, c1, c2, c3, c4, c5, c6, c7⟩, c8⟩ := K0.out
  have hlen := HLN.out
  go_wp2_with fail
  refine Calls.mono (HKN _) ?_
  rw [HK.out]
  rintro e w1 ⟨rfl, rfl⟩
  clear HKN hlen
  go_wp2_with fail
  refine Calls.mono (HR _ T0.out) ?_
  rintro e w1 ⟨vl, vr, vd, rfl, bo, t1⟩
  obtain ⟨a1, q1, a3, q3, a8, q8, rfl, rfl, rfl⟩ := bo.form
  have K1 : Hid (Sd (w1.alloc (.cells #[.int .u8 B.flags, .slice a1 B.links.length q1, .int .u32 B.mask, .slice a3 B.routers.length q3, .int .u32 B.metric, .bool B.type2, .int .u32 B.fwd, .int .u32 B.tag, .slice a8 B.data.length q8] 30)) g1 h (.slice va rs.length vc)) := K0.out.keep (t1.alloc _)
  have R1 : Hid (OutB (w1.alloc (.cells #[.int .u8 B.flags, .slice a1 B.links.length q1, .int .u32 B.mask, .slice a3 B.routers.length q3, .int .u32 B.metric, .bool B.type2, .int .u32 B.fwd, .int .u32 B.tag, .slice a8 B.data.length q8] 30)) (g1 + 1) BV.zero (.slice none 0 0) (.slice none 0 0) (.slice none 0 0)) := R0.out.keep (t1.alloc _)
  have D1 : Hid (Bd (w1.alloc (.cells #[.int .u8 B.flags, .slice a1 B.links.length q1, .int .u32 B.mask, .slice a3 B.routers.length q3, .int .u32 B.metric, .bool B.type2, .int .u32 B.fwd, .int .u32 B.tag, .slice a8 B.data.length q8] 30)) w1.heap.size B (.slice a1 B.links.length q1) (.slice a3 B.routers.length q3) (.slice a8 B.data.length q8)) := Bd.new w1 B _ _ _ _
  have T1 : Hid (Touch (fun _ => False) w (w1.alloc (.cells #[.int .u8 B.flags, .slice a1 B.links.length q1, .int .u32 B.mask, .slice a3 B.routers.length q3, .int .u32 B.metric, .bool B.type2, .int .u32 B.fwd, .int .u32 B.tag, .slice a8 B.data.length q8] 30))) := T0.out.trans (t1.alloc _)
  have BO : Hid (BOwn wa.heap.size (w1.alloc (.cells #[.int .u8 B.flags, .slice a1 B.links.length q1, .int .u32 B.mask, .slice a3 B.routers.length q3, .int .u32 B.metric, .bool B.type2, .int .u32 B.fwd, .int .u32 B.tag, .slice a8 B.data.length q8] 30)) B (.slice a1 B.links.length q1) (.slice a3 B.routers.length q3) (.slice a8 B.data.length q8)) := bo.keep ((Touch.refl _ _).alloc _)
  have Z1 : Hid (w.heap.size ≤ wa.heap.size ∧ g1 + 1 < wa.heap.size ∧ wa.heap.size ≤ w1.heap.size) := ⟨T0.out.size, R0.out.lt, t1.size⟩
  clear c0 c1 c2 c3 c4 c5 c6 c7 c8 bo t1 K0 R0 HR
  go_upto_region 6 with fail
  generalize w1.alloc (.cells #[.int .u8 B.flags, .slice a1 B.links.length q1, .int .u32 B.mask, .slice a3 B.routers.length q3, .int .u32 B.metric, .bool B.type2, .int .u32 B.fwd, .int .u32 B.tag, .slice a8 B.data.length q8] 30) = x1 at *
  generalize w1.heap.size = g4 at *
  obtain ⟨⟨c0, c1, c2, c3, c4, c5, c6, c7⟩, c8⟩ := K1.out
  obtain ⟨d0, d1, d2, d3, d4, d5, d6, d7, d8⟩ := D1.out
  go_wp2_with fail
  refine Calls.mono (HM _ _ _ _ BO.out.arg) ?_
  rintro e w2 ⟨rfl, t2⟩
  have K2 : Hid (Sd w2 g1 h (.slice va rs.length vc)) := K1.out.keep t2
  have R2 : Hid (OutB w2 (g1 + 1) BV.zero (.slice none 0 0) (.slice none 0 0) (.slice none 0 0)) := R1.out.keep t2
  have D2 : Hid (Bd w2 g4 B (.slice a1 B.links.length q1) (.slice a3 B.routers.length q3) (.slice a8 B.data.length q8)) := D1.out.keep t2
  have T2 : Hid (Touch (fun _ => False) w w2) := T1.out.trans t2
  have BO2 : Hid (BOwn wa.heap.size w2 B (.slice a1 B.links.length q1) (.slice a3 B.routers.length q3) (.slice a8 B.data.length q8)) := BO.out.keep t2
  clear c0 c1 c2 c3 c4 c5 c6 c7 c8 d0 d1 d2 d3 d4 d5 d6 d7 d8 t2 K1 R1 D1 T1 BO HM
  obtain ⟨⟨c0, c1, c2, c3, c4, c5, c6, c7⟩, c8⟩ := K2.out
  obtain ⟨d0, d1, d2, d3, d4, d5, d6, d7, d8⟩ := D2.out
  go_wp2_with fail
  refine Calls.mono (HL _ _ _ _ BO2.out.arg) ?_
  rintro e w3 ⟨lv, rfl, b3⟩
  obtain ⟨la, lc, rfl⟩ := b3.form
  have K3 : Hid (Sd w3 g1 h (.slice va rs.length vc)) := K2.out.keep b3.t
  have R3 : Hid (OutB w3 (g1 + 1) BV.zero (.slice none 0 0) (.slice none 0 0) (.slice none 0 0)) := R2.out.keep b3.t
  have D3 : Hid (Bd w3 g4 B (.slice a1 B.links.length q1) (.slice a3 B.routers.length q3) (.slice a8 B.data.length q8)) := D2.out.keep b3.t
  have T3 : Hid (Touch (fun _ => False) w w3) := T2.out.trans b3.t
  have BO3 : Hid (BOwn wa.heap.size w3 B (.slice a1 B.links.length q1) (.slice a3 B.routers.length q3) (.slice a8 B.data.length q8)) := BO2.out.keep b3.t
  have L3 : Hid (ArgAt w3 (.slice la L.length lc) L) := b3.arg
  clear c0 c1 c2 c3 c4 c5 c6 c7 c8 d0 d1 d2 d3 d4 d5 d6 d7 d8 b3 K2 R2 D2 T2 BO2 HL
  obtain ⟨⟨c0, c1, c2, c3, c4, c5, c6, c7⟩, c8⟩ := K3.out
  go_upto_region 11 with fail
  clear hs' hlen' hw64
  go_wp2_with fail
  go_loopw [7] (fun i wx => ∃ k : Nat, k ≤ rs.length ∧ i = .int .i64 (k : Int) ∧ (∀ j, j < k → L.getD j 0 = rs.getD j 0) ∧ Touch (fun _ => False) w3 wx) (fun i _ => rs.length + 1 - (intOf i).toNat)
  case atStart => exact ⟨0, Nat.zero_le _, rfl, fun j hj => by omega, Touch.refl _ _⟩
  case round =>
    obtain ⟨k, hk, rfl, hsame, tx⟩ := hrel
    have HSM : Hid (∀ j, j < k → L.getD j 0 = rs.getD j 0) := hsame
    have K4 : Hid (Sd wr g1 h (.slice va rs.length vc)) := K3.out.keep tx
    have R4 : Hid (OutB wr (g1 + 1) BV.zero (.slice none 0 0) (.slice none 0 0) (.slice none 0 0)) := R3.out.keep tx
    have D4 : Hid (Bd wr g4 B (.slice a1 B.links.length q1) (.slice a3 B.routers.length q3) (.slice a8 B.data.length q8)) := D3.out.keep tx
    have T4 : Hid (Touch (fun _ => False) w wr) := T3.out.trans tx
    have BO4 : Hid (BOwn wa.heap.size wr B (.slice a1 B.links.length q1) (.slice a3 B.routers.length q3) (.slice a8 B.data.length q8)) := BO3.out.keep tx
    have L4 : Hid (ArgAt wr (.slice la L.length lc) L) := L3.out.keepN tx
    have V4 : Hid (ArgAt wr (.slice va rs.length vc) rs) := HV'.out.keepN T4.out
    have TX : Hid (Touch (fun _ => False) w3 wr) := tx
    clear hsame tx c0 c1 c2 c3 c4 c5 c6 c7 c8
    have hsl := HS.out
    generalize hLL : L.length = n at *
    have HLL : Hid (L.length = n) := hLL
    clear hLL
    by_cases hlt : k < n
    · have hki : (k : Int) < (n : Int) := by omega
      have hkr : (k : Int) < (rs.length : Int) := by omega
      have hkr' : k < rs.length := by omega
      have l4 := L4.out
      rw [← HLL.out] at l4
      have hrow := l4.row (by have := HLL.out; omega)
      obtain ⟨gl, ol, rfl⟩ := rowAt_some hrow (by have := HLL.out; omega)
      have cl := rowAt_cell hrow k (by have := HLL.out; omega)
      have hrv := V4.out.row (by omega)
      obtain ⟨gr, or_, rfl⟩ := rowAt_some hrv (by omega)
      have cr := rowAt_cell hrv k (by omega)
      have c8 := K4.out.c8
      generalize hx : L.getD k 0 = x at cl
      generalize hy : rs.getD k 0 = y at cr
      have HX : Hid (L.getD k 0 = x) := hx
      have HY : Hid (rs.getD k 0 = y) := hy
      clear l4 hrow hrv hx hy
      by_cases hxy : x = y
      · subst hxy
        go_wp2_with fail
        go_region
        go_wp2_with fail
        go_roundw
        case rel => exact ⟨k + 1, by omega, by go_num, fun j hj => by
          by_cases e : j = k
          · subst e; rw [HX.out, HY.out]
          · exact HSM.out j (by omega), TX.out.drew⟩
        case measure => simp [intOf]; omega
      · have hxy' : (x != y) = true := by simpa using hxy
        have HNE : Hid (¬ x = y) := hxy
        go_wp2_with fail
        go_region
        obtain ⟨⟨r0, r1, r2, r3, r4, r5, r6, r7, r8⟩, fr⟩ := R4.out
        have f0 := fr 0 (by omega)
        have f1 := fr 1 (by omega)
        have f2 := fr 2 (by omega)
        have f3 := fr 3 (by omega)
        have f4 := fr 4 (by omega)
        have f5 := fr 5 (by omega)
        have f6 := fr 6 (by omega)
        have f7 := fr 7 (by omega)
        have f8 := fr 8 (by omega)
        clear fr
        dsimp only [BV.zero] at r0 r1 r2 r3 r4 r5 r6 r7 r8
        go_wp2_with fail
        refine bodyPost_ret (v := .tuple #[.agg #[.int .u8 0, .slice none 0 0, .int .u32 0, .slice none 0 0, .int .u32 0, .bool false, .int .u32 0, .int .u32 0, .slice none 0 0], .int .i64 28]) (by simp [results, Tryz.results18, go_sem, r0, r1, r2, r3, r4, r5, r6, r7, r8]) rfl (Or.inr ⟨⟨rfl, ?_⟩, ?_⟩)
        · have hge : False ∨ w.heap.size ≤ g1 + 1 := Or.inr (by have := HG1.out; omega)
          refine Touch.drew ?_; refine Touch.setCell (F := fun _ => False) (p := ⟨g1 + 1, 8, none⟩) ?_ hge _; refine Touch.setCell (F := fun _ => False) (p := ⟨g1 + 1, 7, none⟩) ?_ hge _; refine Touch.setCell (F := fun _ => False) (p := ⟨g1 + 1, 6, none⟩) ?_ hge _; refine Touch.setCell (F := fun _ => False) (p := ⟨g1 + 1, 5, none⟩) ?_ hge _; refine Touch.setCell (F := fun _ => False) (p := ⟨g1 + 1, 4, none⟩) ?_ hge _; refine Touch.setCell (F := fun _ => False) (p := ⟨g1 + 1, 3, none⟩) ?_ hge _; refine Touch.setCell (F := fun _ => False) (p := ⟨g1 + 1, 2, none⟩) ?_ hge _; refine Touch.setCell (F := fun _ => False) (p := ⟨g1 + 1, 1, none⟩) ?_ hge _; refine Touch.setCell (F := fun _ => False) (p := ⟨g1 + 1, 0, none⟩) ?_ hge _; exact T4.out
        · intro e
          have h1 := HX.out
          have h2 := HY.out
          rw [e, h2] at h1
          exact HNE.out h1.symm
    · obtain rfl : k = n := by omega
      have hki : ¬ (k : Int) < (k : Int) := by omega
      have HEQ : Hid (L = rs) := getD_same (by have := HLL.out; omega) (fun j hj => HSM.out j (by have := HLL.out; omega))
      obtain ⟨d0, d1, d2, d3, d4, d5, d6, d7, d8⟩ := D4.out
      go_upto_region 16 with fail
      have R9 : Hid (Room wr (g1 + 1) 9) := fun i hi => (by obtain ⟨⟨r0, r1, r2, r3, r4, r5, r6, r7, r8⟩, fr⟩ := R4.out; match i, hi with
        | 0, _ => exact ⟨_, r0, fr 0 (by omega)⟩
        | 1, _ => exact ⟨_, r1, fr 1 (by omega)⟩
        | 2, _ => exact ⟨_, r2, fr 2 (by omega)⟩
        | 3, _ => exact ⟨_, r3, fr 3 (by omega)⟩
        | 4, _ => exact ⟨_, r4, fr 4 (by omega)⟩
        | 5, _ => exact ⟨_, r5, fr 5 (by omega)⟩
        | 6, _ => exact ⟨_, r6, fr 6 (by omega)⟩
        | 7, _ => exact ⟨_, r7, fr 7 (by omega)⟩
        | 8, _ => exact ⟨_, r8, fr 8 (by omega)⟩
        | i + 9, h => omega)
      obtain ⟨zz0, zc0, zf0⟩ := R9.out 0 (by omega)
      obtain ⟨zz1, zc1, zf1⟩ := R9.out 1 (by omega)
      obtain ⟨zz2, zc2, zf2⟩ := R9.out 2 (by omega)
      obtain ⟨zz3, zc3, zf3⟩ := R9.out 3 (by omega)
      obtain ⟨zz4, zc4, zf4⟩ := R9.out 4 (by omega)
      obtain ⟨zz5, zc5, zf5⟩ := R9.out 5 (by omega)
      obtain ⟨zz6, zc6, zf6⟩ := R9.out 6 (by omega)
      obtain ⟨zz7, zc7, zf7⟩ := R9.out 7 (by omega)
      obtain ⟨zz8, zc8, zf8⟩ := R9.out 8 (by omega)
      obtain ⟨wz, hwz⟩ : ∃ wz, wz = (((((((((wr.setCell ⟨g1 + 1, 0, none⟩ (.int .u8 B.flags)).setCell ⟨g1 + 1, 1, none⟩ (.slice a1 B.links.length q1)).setCell ⟨g1 + 1, 2, none⟩ (.int .u32 B.mask)).setCell ⟨g1 + 1, 3, none⟩ (.slice a3 B.routers.length q3)).setCell ⟨g1 + 1, 4, none⟩ (.int .u32 B.metric)).setCell ⟨g1 + 1, 5, none⟩ (.bool B.type2)).setCell ⟨g1 + 1, 6, none⟩ (.int .u32 B.fwd)).setCell ⟨g1 + 1, 7, none⟩ (.int .u32 B.tag)).setCell ⟨g1 + 1, 8, none⟩ (.slice a8 B.data.length q8)) := ⟨_, rfl⟩
      have zd0 : wz.cell? ⟨g1 + 1, 0, none⟩ = some (.int .u8 B.flags) := by rw [hwz]; simp [zc0, go_sem]
      have zd1 : wz.cell? ⟨g1 + 1, 1, none⟩ = some (.slice a1 B.links.length q1) := by rw [hwz]; simp [zc1, go_sem]
      have zd2 : wz.cell? ⟨g1 + 1, 2, none⟩ = some (.int .u32 B.mask) := by rw [hwz]; simp [zc2, go_sem]
      have zd3 : wz.cell? ⟨g1 + 1, 3, none⟩ = some (.slice a3 B.routers.length q3) := by rw [hwz]; simp [zc3, go_sem]
      have zd4 : wz.cell? ⟨g1 + 1, 4, none⟩ = some (.int .u32 B.metric) := by rw [hwz]; simp [zc4, go_sem]
      have zd5 : wz.cell? ⟨g1 + 1, 5, none⟩ = some (.bool B.type2) := by rw [hwz]; simp [zc5, go_sem]
      have zd6 : wz.cell? ⟨g1 + 1, 6, none⟩ = some (.int .u32 B.fwd) := by rw [hwz]; simp [zc6, go_sem]
      have zd7 : wz.cell? ⟨g1 + 1, 7, none⟩ = some (.int .u32 B.tag) := by rw [hwz]; simp [zc7, go_sem]
      have zd8 : wz.cell? ⟨g1 + 1, 8, none⟩ = some (.slice a8 B.data.length q8) := by rw [hwz]; simp [zc8, go_sem]
      have HUz : Hid (Touch (fun k => k = g1 + 1) wr wz) := by show Touch _ _ _; rw [hwz]; refine Touch.setCell (F := fun k => k = g1 + 1) (p := ⟨g1 + 1, 8, none⟩) ?_ (Or.inl rfl) _; refine Touch.setCell (F := fun k => k = g1 + 1) (p := ⟨g1 + 1, 7, none⟩) ?_ (Or.inl rfl) _; refine Touch.setCell (F := fun k => k = g1 + 1) (p := ⟨g1 + 1, 6, none⟩) ?_ (Or.inl rfl) _; refine Touch.setCell (F := fun k => k = g1 + 1) (p := ⟨g1 + 1, 5, none⟩) ?_ (Or.inl rfl) _; refine Touch.setCell (F := fun k => k = g1 + 1) (p := ⟨g1 + 1, 4, none⟩) ?_ (Or.inl rfl) _; refine Touch.setCell (F := fun k => k = g1 + 1) (p := ⟨g1 + 1, 3, none⟩) ?_ (Or.inl rfl) _; refine Touch.setCell (F := fun k => k = g1 + 1) (p := ⟨g1 + 1, 2, none⟩) ?_ (Or.inl rfl) _; refine Touch.setCell (F := fun k => k = g1 + 1) (p := ⟨g1 + 1, 1, none⟩) ?_ (Or.inl rfl) _; refine Touch.setCell (F := fun k => k = g1 + 1) (p := ⟨g1 + 1, 0, none⟩) ?_ (Or.inl rfl) _; exact Touch.refl _ _
      have HWz : Hid (wz = (((((((((wr.setCell ⟨g1 + 1, 0, none⟩ (.int .u8 B.flags)).setCell ⟨g1 + 1, 1, none⟩ (.slice a1 B.links.length q1)).setCell ⟨g1 + 1, 2, none⟩ (.int .u32 B.mask)).setCell ⟨g1 + 1, 3, none⟩ (.slice a3 B.routers.length q3)).setCell ⟨g1 + 1, 4, none⟩ (.int .u32 B.metric)).setCell ⟨g1 + 1, 5, none⟩ (.bool B.type2)).setCell ⟨g1 + 1, 6, none⟩ (.int .u32 B.fwd)).setCell ⟨g1 + 1, 7, none⟩ (.int .u32 B.tag)).setCell ⟨g1 + 1, 8, none⟩ (.slice a8 B.data.length q8))) := hwz
      clear hwz
      go_wp2_with fail
      rw [← HWz.out]
      clear HWz zc0 zf0 zc1 zf1 zc2 zf2 zc3 zf3 zc4 zf4 zc5 zf5 zc6 zf6 zc7 zf7 zc8 zf8
      refine bodyPost_ret (v := .tuple #[.agg #[.int .u8 B.flags, .slice a1 B.links.length q1, .int .u32 B.mask, .slice a3 B.routers.length q3, .int .u32 B.metric, .bool B.type2, .int .u32 B.fwd, .int .u32 B.tag, .slice a8 B.data.length q8], .int .i64 0]) (by simp [results, Tryz.results18, go_sem, zd0, zd1, zd2, zd3, zd4, zd5, zd6, zd7, zd8]) rfl ?_
      refine Or.inl ⟨_, _, _, rfl, ?_, T4.out.trans' HUz.out (fun i hi e => by have := HG1.out; omega), HEQ.out⟩
      exact (BO4.out.touch HUz.out (fun k hk e => by have := Z1.out; omega)).lower (by have := Z1.out; omega)
end Go.Proofs.YthdkihnmeoacaaaGreatDoor
