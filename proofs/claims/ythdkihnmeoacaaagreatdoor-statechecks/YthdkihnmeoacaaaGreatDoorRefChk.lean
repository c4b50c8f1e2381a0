/- The document's Check. -/
import Derived.Test.YthdkihnmeoacaaaGreatDoorWideB
import Derived.Test.YthdkihnmeoacaaaGreatDoorRefSeal
namespace Go.Proofs.YthdkihnmeoacaaaGreatDoor
open Go.RowKit
set_option linter.unusedVariables false
set_option maxRecDepth 100000


set_option maxHeartbeats 600000 in
theorem rchk_len (h : HV) (ok : h.All) (va : Option Addr) (vc : Nat) (rs : List Int) (w : World) (hv : ArgAt w (.slice va rs.length vc) rs) (hby : ∀ z ∈ rs, 0 ≤ z ∧ z < 256) (hn : rs.length ≤ 131072) (hlen : ¬ h.len = 20 + (rs.length : Int)) :
    Calls Tryz.prog 26 #[.agg #[.int .u16 h.age, .int .u8 h.opts, .int .u8 h.typ, .int .u32 h.id, .int .u32 h.adv, .int .i32 h.seq, .int .u16 h.sum, .int .u16 h.len, .slice va rs.length vc]] w fun e w' => e = .returned (.int .i64 22) ∧ Touch (fun _ => False) w w' := by
  have HV' : Hid (ArgAt w (.slice va rs.length vc) rs) := hv
  have hw64 : IntKind.i64.wrap h.len = h.len := by have := ok.l; simp [IntKind.wrap, IntKind.bits, IntKind.signed]; omega
  have hnn : (rs.length : Int) ≤ 131072 := by omega
  have HKN := fun w => rknown_any h.typ ok.t.1 w
  have HBT := fun w' (hv : ArgAt w' (.slice va rs.length vc) rs) => rbytes_any h ok (.slice va rs.length vc) rs w' hv hn
  have HDC := fun w' (hv : ArgAt w' (.slice va rs.length vc) rs) => ddecode_any h ok (.slice va rs.length vc) rs w' hv hby hn
  unfold HV.sv at HBT HDC
  unfold BV.v at HDC
  have HBB : Hid (∀ z ∈ headB h ++ rs, 0 ≤ z ∧ z < 256) := fun z hz => by rcases List.mem_append.1 hz with hz | hz; exact headB_byte ok z hz; exact hby z hz
  have HBL : Hid ((headB h ++ rs).length = 20 + rs.length) := by show _ = _; rw [List.length_append, length_headB]
  have hag0 := ok.a.1
  have hag1 := ok.a.2
  generalize headB h ++ rs = bl at *
  clear hv ok hby
  go_enter Tryz.func26, Tryz.ntmps26
  go_upto_region 1 with fail
  have K0 : Hid (Sd (w.alloc (.cells #[.int .u16 h.age, .int .u8 h.opts, .int .u8 h.typ, .int .u32 h.id, .int .u32 h.adv, .int .i32 h.seq, .int .u16 h.sum, .int .u16 h.len, .slice va rs.length vc] 35)) w.heap.size h (.slice va rs.length vc)) := Sd.new w h _ _
  have T0 : Hid (Touch (fun _ => False) w (w.alloc (.cells #[.int .u16 h.age, .int .u8 h.opts, .int .u8 h.typ, .int .u32 h.id, .int .u32 h.adv, .int .i32 h.seq, .int .u16 h.sum, .int .u16 h.len, .slice va rs.length vc] 35))) := (Touch.refl _ _).alloc _
  generalize w.alloc (.cells #[.int .u16 h.age, .int .u8 h.opts, .int .u8 h.typ, .int .u32 h.id, .int .u32 h.adv, .int .i32 h.seq, .int .u16 h.sum, .int .u16 h.len, .slice va rs.length vc] 35) = wa at K0 T0 ⊢
  generalize w.heap.size = g1 at K0 ⊢
  obtain ⟨⟨c0, c1, c2, c3, c4, c5, c6, c7⟩, c8⟩ := K0.out
  go_wp2
  go_ret
  exact ⟨rfl, T0.out⟩

set_option maxHeartbeats 600000 in
theorem rchk_sum0 (h : HV) (ok : h.All) (va : Option Addr) (vc : Nat) (rs : List Int) (w : World) (hv : ArgAt w (.slice va rs.length vc) rs) (hby : ∀ z ∈ rs, 0 ≤ z ∧ z < 256) (hn : rs.length ≤ 131072) (hlen : h.len = 20 + (rs.length : Int)) (hs : h.sum = 0) :
    Calls Tryz.prog 26 #[.agg #[.int .u16 h.age, .int .u8 h.opts, .int .u8 h.typ, .int .u32 h.id, .int .u32 h.adv, .int .i32 h.seq, .int .u16 h.sum, .int .u16 h.len, .slice va rs.length vc]] w fun e w' => e = .returned (.int .i64 23) ∧ Touch (fun _ => False) w w' := by
  have HV' : Hid (ArgAt w (.slice va rs.length vc) rs) := hv
  have hw64 : IntKind.i64.wrap h.len = h.len := by have := ok.l; simp [IntKind.wrap, IntKind.bits, IntKind.signed]; omega
  have hnn : (rs.length : Int) ≤ 131072 := by omega
  have HKN := fun w => rknown_any h.typ ok.t.1 w
  have HBT := fun w' (hv : ArgAt w' (.slice va rs.length vc) rs) => rbytes_any h ok (.slice va rs.length vc) rs w' hv hn
  have HDC := fun w' (hv : ArgAt w' (.slice va rs.length vc) rs) => ddecode_any h ok (.slice va rs.length vc) rs w' hv hby hn
  unfold HV.sv at HBT HDC
  unfold BV.v at HDC
  have HBB : Hid (∀ z ∈ headB h ++ rs, 0 ≤ z ∧ z < 256) := fun z hz => by rcases List.mem_append.1 hz with hz | hz; exact headB_byte ok z hz; exact hby z hz
  have HBL : Hid ((headB h ++ rs).length = 20 + rs.length) := by show _ = _; rw [List.length_append, length_headB]
  have hag0 := ok.a.1
  have hag1 := ok.a.2
  have HLN : Hid (h.len = 20 + (rs.length : Int)) := hlen
  have HL6 : Hid (rs.length ≤ 65515) := by have := ok.l; show _ ≤ _; omega
  clear hlen
  have HS0 : Hid (h.sum = 0) := hs
  clear hs
  generalize headB h ++ rs = bl at *
  clear hv ok hby
  go_enter Tryz.func26, Tryz.ntmps26
  go_upto_region 1 with fail
  have K0 : Hid (Sd (w.alloc (.cells #[.int .u16 h.age, .int .u8 h.opts, .int .u8 h.typ, .int .u32 h.id, .int .u32 h.adv, .int .i32 h.seq, .int .u16 h.sum, .int .u16 h.len, .slice va rs.length vc] 35)) w.heap.size h (.slice va rs.length vc)) := Sd.new w h _ _
  have T0 : Hid (Touch (fun _ => False) w (w.alloc (.cells #[.int .u16 h.age, .int .u8 h.opts, .int .u8 h.typ, .int .u32 h.id, .int .u32 h.adv, .int .i32 h.seq, .int .u16 h.sum, .int .u16 h.len, .slice va rs.length vc] 35))) := (Touch.refl _ _).alloc _
  generalize w.alloc (.cells #[.int .u16 h.age, .int .u8 h.opts, .int .u8 h.typ, .int .u32 h.id, .int .u32 h.adv, .int .i32 h.seq, .int .u16 h.sum, .int .u16 h.len, .slice va rs.length vc] 35) = wa at K0 T0 ⊢
  generalize w.heap.size = g1 at K0 ⊢
  obtain ⟨⟨c0, c1, c2, c3, c4, c5, c6, c7⟩, c8⟩ := K0.out
  have hlen := HLN.out.symm
  go_wp2_with fail
  refine Calls.mono (HBT _ (HV'.out.keepN T0.out)) ?_
  rintro e w1 ⟨bv, rfl, b1⟩
  obtain ⟨ba, bc, rfl⟩ := b1.form
  have K1 : Hid (Sd w1 g1 h (.slice va rs.length vc)) := K0.out.keep b1.t
  have T1 : Hid (Touch (fun _ => False) w w1) := T0.out.trans b1.t
  have B1 : Hid (ArgAt w1 (.slice ba bl.length bc) bl) := b1.arg
  clear c0 c1 c2 c3 c4 c5 c6 c7 c8 b1 K0 HBT hlen
  obtain ⟨⟨c0, c1, c2, c3, c4, c5, c6, c7⟩, c8⟩ := K1.out
  have hs := HS0.out
  go_wp2
  go_ret
  exact ⟨rfl, T1.out⟩

set_option maxHeartbeats 600000 in
theorem rchk_whole (h : HV) (ok : h.All) (va : Option Addr) (vc : Nat) (rs : List Int) (w : World) (hv : ArgAt w (.slice va rs.length vc) rs) (hby : ∀ z ∈ rs, 0 ≤ z ∧ z < 256) (hn : rs.length ≤ 131072) (hlen : h.len = 20 + (rs.length : Int)) (hs : h.sum ≠ 0) (hw : whole ((headB h ++ rs).drop 2) = false) :
    Calls Tryz.prog 26 #[.agg #[.int .u16 h.age, .int .u8 h.opts, .int .u8 h.typ, .int .u32 h.id, .int .u32 h.adv, .int .i32 h.seq, .int .u16 h.sum, .int .u16 h.len, .slice va rs.length vc]] w fun e w' => e = .returned (.int .i64 23) ∧ Touch (fun _ => False) w w' := by
  have HV' : Hid (ArgAt w (.slice va rs.length vc) rs) := hv
  have hw64 : IntKind.i64.wrap h.len = h.len := by have := ok.l; simp [IntKind.wrap, IntKind.bits, IntKind.signed]; omega
  have hnn : (rs.length : Int) ≤ 131072 := by omega
  have HKN := fun w => rknown_any h.typ ok.t.1 w
  have HBT := fun w' (hv : ArgAt w' (.slice va rs.length vc) rs) => rbytes_any h ok (.slice va rs.length vc) rs w' hv hn
  have HDC := fun w' (hv : ArgAt w' (.slice va rs.length vc) rs) => ddecode_any h ok (.slice va rs.length vc) rs w' hv hby hn
  unfold HV.sv at HBT HDC
  unfold BV.v at HDC
  have HBB : Hid (∀ z ∈ headB h ++ rs, 0 ≤ z ∧ z < 256) := fun z hz => by rcases List.mem_append.1 hz with hz | hz; exact headB_byte ok z hz; exact hby z hz
  have HBL : Hid ((headB h ++ rs).length = 20 + rs.length) := by show _ = _; rw [List.length_append, length_headB]
  have hag0 := ok.a.1
  have hag1 := ok.a.2
  have HLN : Hid (h.len = 20 + (rs.length : Int)) := hlen
  have HL6 : Hid (rs.length ≤ 65515) := by have := ok.l; show _ ≤ _; omega
  clear hlen
  have hs' : (h.sum == 0) = false := by simpa using hs
  have HW : Hid (whole ((headB h ++ rs).drop 2) = false) := hw
  clear hs hw
  generalize headB h ++ rs = bl at *
  clear hv ok hby
  go_enter Tryz.func26, Tryz.ntmps26
  go_upto_region 1 with fail
  have K0 : Hid (Sd (w.alloc (.cells #[.int .u16 h.age, .int .u8 h.opts, .int .u8 h.typ, .int .u32 h.id, .int .u32 h.adv, .int .i32 h.seq, .int .u16 h.sum, .int .u16 h.len, .slice va rs.length vc] 35)) w.heap.size h (.slice va rs.length vc)) := Sd.new w h _ _
  have T0 : Hid (Touch (fun _ => False) w (w.alloc (.cells #[.int .u16 h.age, .int .u8 h.opts, .int .u8 h.typ, .int .u32 h.id, .int .u32 h.adv, .int .i32 h.seq, .int .u16 h.sum, .int .u16 h.len, .slice va rs.length vc] 35))) := (Touch.refl _ _).alloc _
  generalize w.alloc (.cells #[.int .u16 h.age, .int .u8 h.opts, .int .u8 h.typ, .int .u32 h.id, .int .u32 h.adv, .int .i32 h.seq, .int .u16 h.sum, .int .u16 h.len, .slice va rs.length vc] 35) = wa at K0 T0 ⊢
  generalize w.heap.size = g1 at K0 ⊢
  obtain ⟨⟨c0, c1, c2, c3, c4, c5, c6, c7⟩, c8⟩ := K0.out
  have hlen := HLN.out.symm
  go_wp2_with fail
  refine Calls.mono (HBT _ (HV'.out.keepN T0.out)) ?_
  rintro e w1 ⟨bv, rfl, b1⟩
  obtain ⟨ba, bc, rfl⟩ := b1.form
  have K1 : Hid (Sd w1 g1 h (.slice va rs.length vc)) := K0.out.keep b1.t
  have T1 : Hid (Touch (fun _ => False) w w1) := T0.out.trans b1.t
  have B1 : Hid (ArgAt w1 (.slice ba bl.length bc) bl) := b1.arg
  clear c0 c1 c2 c3 c4 c5 c6 c7 c8 b1 K0 HBT hlen
  obtain ⟨⟨c0, c1, c2, c3, c4, c5, c6, c7⟩, c8⟩ := K1.out
  obtain ⟨cv, hcv, hca⟩ := cut_from B1.out rfl (by have := HBL.out; omega) 2 (by have := HBL.out; omega)
  replace hcv : ∀ w, Sem.run Tryz.prog (Instr.slice 28 (.slice ba bl.length bc) (some (.int .i64 2)) none none) w = .ok cv w := hcv
  have HWH := dwhole_any cv (bl.drop 2) w1 hca (fun z hz => HBB.out z (List.mem_of_mem_drop hz)) (by rw [List.length_drop]; have := HBL.out; have := HL6.out; omega)
  rw [HW.out] at HWH
  clear hca
  go_wp2_with fail
  refine Calls.mono HWH ?_
  rintro e wx ⟨rfl, rfl⟩
  clear HWH hcv
  go_wp2
  go_ret
  exact ⟨rfl, T1.out⟩

set_option maxHeartbeats 600000 in
theorem rchk_unk (h : HV) (ok : h.All) (va : Option Addr) (vc : Nat) (rs : List Int) (w : World) (hv : ArgAt w (.slice va rs.length vc) rs) (hby : ∀ z ∈ rs, 0 ≤ z ∧ z < 256) (hn : rs.length ≤ 131072) (hlen : h.len = 20 + (rs.length : Int)) (hs : h.sum ≠ 0) (hw : whole ((headB h ++ rs).drop 2) = true) (hk : knownB h.typ = false) :
    Calls Tryz.prog 26 #[.agg #[.int .u16 h.age, .int .u8 h.opts, .int .u8 h.typ, .int .u32 h.id, .int .u32 h.adv, .int .i32 h.seq, .int .u16 h.sum, .int .u16 h.len, .slice va rs.length vc]] w fun e w' => e = .returned (.int .i64 21) ∧ Touch (fun _ => False) w w' := by
  have HV' : Hid (ArgAt w (.slice va rs.length vc) rs) := hv
  have hw64 : IntKind.i64.wrap h.len = h.len := by have := ok.l; simp [IntKind.wrap, IntKind.bits, IntKind.signed]; omega
  have hnn : (rs.length : Int) ≤ 131072 := by omega
  have HKN := fun w => rknown_any h.typ ok.t.1 w
  have HBT := fun w' (hv : ArgAt w' (.slice va rs.length vc) rs) => rbytes_any h ok (.slice va rs.length vc) rs w' hv hn
  have HDC := fun w' (hv : ArgAt w' (.slice va rs.length vc) rs) => ddecode_any h ok (.slice va rs.length vc) rs w' hv hby hn
  unfold HV.sv at HBT HDC
  unfold BV.v at HDC
  have HBB : Hid (∀ z ∈ headB h ++ rs, 0 ≤ z ∧ z < 256) := fun z hz => by rcases List.mem_append.1 hz with hz | hz; exact headB_byte ok z hz; exact hby z hz
  have HBL : Hid ((headB h ++ rs).length = 20 + rs.length) := by show _ = _; rw [List.length_append, length_headB]
  have hag0 := ok.a.1
  have hag1 := ok.a.2
  have HLN : Hid (h.len = 20 + (rs.length : Int)) := hlen
  have HL6 : Hid (rs.length ≤ 65515) := by have := ok.l; show _ ≤ _; omega
  clear hlen
  have hs' : (h.sum == 0) = false := by simpa using hs
  have HW : Hid (whole ((headB h ++ rs).drop 2) = true) := hw
  clear hs hw
  have HK : Hid (knownB h.typ = false) := hk
  clear hk
  generalize headB h ++ rs = bl at *
  clear hv ok hby
  go_enter Tryz.func26, Tryz.ntmps26
  go_upto_region 1 with fail
  have K0 : Hid (Sd (w.alloc (.cells #[.int .u16 h.age, .int .u8 h.opts, .int .u8 h.typ, .int .u32 h.id, .int .u32 h.adv, .int .i32 h.seq, .int .u16 h.sum, .int .u16 h.len, .slice va rs.length vc] 35)) w.heap.size h (.slice va rs.length vc)) := Sd.new w h _ _
  have T0 : Hid (Touch (fun _ => False) w (w.alloc (.cells #[.int .u16 h.age, .int .u8 h.opts, .int .u8 h.typ, .int .u32 h.id, .int .u32 h.adv, .int .i32 h.seq, .int .u16 h.sum, .int .u16 h.len, .slice va rs.length vc] 35))) := (Touch.refl _ _).alloc _
  generalize w.alloc (.cells #[.int .u16 h.age, .int .u8 h.opts, .int .u8 h.typ, .int .u32 h.id, .int .u32 h.adv, .int .i32 h.seq, .int .u16 h.sum, .int .u16 h.len, .slice va rs.length vc] 35) = wa at K0 T0 ⊢
  generalize w.heap.size = g1 at K0 ⊢
  obtain ⟨⟨c0, c1, c2, c3, c4, c5, c6, c7⟩, c8⟩ := K0.out
  have hlen := HLN.out.symm
  go_wp2_with fail
  refine Calls.mono (HBT _ (HV'.out.keepN T0.out)) ?_
  rintro e w1 ⟨bv, rfl, b1⟩
  obtain ⟨ba, bc, rfl⟩ := b1.form
  have K1 : Hid (Sd w1 g1 h (.slice va rs.length vc)) := K0.out.keep b1.t
  have T1 : Hid (Touch (fun _ => False) w w1) := T0.out.trans b1.t
  have B1 : Hid (ArgAt w1 (.slice ba bl.length bc) bl) := b1.arg
  clear c0 c1 c2 c3 c4 c5 c6 c7 c8 b1 K0 HBT hlen
  obtain ⟨⟨c0, c1, c2, c3, c4, c5, c6, c7⟩, c8⟩ := K1.out
  obtain ⟨cv, hcv, hca⟩ := cut_from B1.out rfl (by have := HBL.out; omega) 2 (by have := HBL.out; omega)
  replace hcv : ∀ w, Sem.run Tryz.prog (Instr.slice 28 (.slice ba bl.length bc) (some (.int .i64 2)) none none) w = .ok cv w := hcv
  have HWH := dwhole_any cv (bl.drop 2) w1 hca (fun z hz => HBB.out z (List.mem_of_mem_drop hz)) (by rw [List.length_drop]; have := HBL.out; have := HL6.out; omega)
  rw [HW.out] at HWH
  clear hca
  go_wp2_with fail
  refine Calls.mono HWH ?_
  rintro e wx ⟨rfl, rfl⟩
  clear HWH hcv
  go_wp2_with fail
  refine Calls.mono (HKN _) ?_
  rw [HK.out]
  rintro e wx ⟨rfl, rfl⟩
  clear HKN
  go_wp2
  go_ret
  exact ⟨rfl, T1.out⟩

set_option maxHeartbeats 600000 in
theorem rchk_seq (h : HV) (ok : h.All) (va : Option Addr) (vc : Nat) (rs : List Int) (w : World) (hv : ArgAt w (.slice va rs.length vc) rs) (hby : ∀ z ∈ rs, 0 ≤ z ∧ z < 256) (hn : rs.length ≤ 131072) (hlen : h.len = 20 + (rs.length : Int)) (hs : h.sum ≠ 0) (hw : whole ((headB h ++ rs).drop 2) = true) (hk : knownB h.typ = true) (hq : h.seq = -2147483648) :
    Calls Tryz.prog 26 #[.agg #[.int .u16 h.age, .int .u8 h.opts, .int .u8 h.typ, .int .u32 h.id, .int .u32 h.adv, .int .i32 h.seq, .int .u16 h.sum, .int .u16 h.len, .slice va rs.length vc]] w fun e w' => e = .returned (.int .i64 24) ∧ Touch (fun _ => False) w w' := by
  have HV' : Hid (ArgAt w (.slice va rs.length vc) rs) := hv
  have hw64 : IntKind.i64.wrap h.len = h.len := by have := ok.l; simp [IntKind.wrap, IntKind.bits, IntKind.signed]; omega
  have hnn : (rs.length : Int) ≤ 131072 := by omega
  have HKN := fun w => rknown_any h.typ ok.t.1 w
  have HBT := fun w' (hv : ArgAt w' (.slice va rs.length vc) rs) => rbytes_any h ok (.slice va rs.length vc) rs w' hv hn
  have HDC := fun w' (hv : ArgAt w' (.slice va rs.length vc) rs) => ddecode_any h ok (.slice va rs.length vc) rs w' hv hby hn
  unfold HV.sv at HBT HDC
  unfold BV.v at HDC
  have HBB : Hid (∀ z ∈ headB h ++ rs, 0 ≤ z ∧ z < 256) := fun z hz => by rcases List.mem_append.1 hz with hz | hz; exact headB_byte ok z hz; exact hby z hz
  have HBL : Hid ((headB h ++ rs).length = 20 + rs.length) := by show _ = _; rw [List.length_append, length_headB]
  have hag0 := ok.a.1
  have hag1 := ok.a.2
  have HLN : Hid (h.len = 20 + (rs.length : Int)) := hlen
  have HL6 : Hid (rs.length ≤ 65515) := by have := ok.l; show _ ≤ _; omega
  clear hlen
  have hs' : (h.sum == 0) = false := by simpa using hs
  have HW : Hid (whole ((headB h ++ rs).drop 2) = true) := hw
  clear hs hw
  have HK : Hid (knownB h.typ = true) := hk
  clear hk
  have hq' : (h.seq == -2147483648) = true := by simpa using hq
  have HQ : Hid (h.seq = -2147483648) := hq
  clear hq
  generalize headB h ++ rs = bl at *
  clear hv ok hby
  go_enter Tryz.func26, Tryz.ntmps26
  go_upto_region 1 with fail
  have K0 : Hid (Sd (w.alloc (.cells #[.int .u16 h.age, .int .u8 h.opts, .int .u8 h.typ, .int .u32 h.id, .int .u32 h.adv, .int .i32 h.seq, .int .u16 h.sum, .int .u16 h.len, .slice va rs.length vc] 35)) w.heap.size h (.slice va rs.length vc)) := Sd.new w h _ _
  have T0 : Hid (Touch (fun _ => False) w (w.alloc (.cells #[.int .u16 h.age, .int .u8 h.opts, .int .u8 h.typ, .int .u32 h.id, .int .u32 h.adv, .int .i32 h.seq, .int .u16 h.sum, .int .u16 h.len, .slice va rs.length vc] 35))) := (Touch.refl _ _).alloc _
  generalize w.alloc (.cells #[.int .u16 h.age, .int .u8 h.opts, .int .u8 h.typ, .int .u32 h.id, .int .u32 h.adv, .int .i32 h.seq, .int .u16 h.sum, .int .u16 h.len, .slice va rs.length vc] 35) = wa at K0 T0 ⊢
  generalize w.heap.size = g1 at K0 ⊢
  obtain ⟨⟨c0, c1, c2, c3, c4, c5, c6, c7⟩, c8⟩ := K0.out
  have hlen := HLN.out.symm
  go_wp2_with fail
  refine Calls.mono (HBT _ (HV'.out.keepN T0.out)) ?_
  rintro e w1 ⟨bv, rfl, b1⟩
  obtain ⟨ba, bc, rfl⟩ := b1.form
  have K1 : Hid (Sd w1 g1 h (.slice va rs.length vc)) := K0.out.keep b1.t
  have T1 : Hid (Touch (fun _ => False) w w1) := T0.out.trans b1.t
  have B1 : Hid (ArgAt w1 (.slice ba bl.length bc) bl) := b1.arg
  clear c0 c1 c2 c3 c4 c5 c6 c7 c8 b1 K0 HBT hlen
  obtain ⟨⟨c0, c1, c2, c3, c4, c5, c6, c7⟩, c8⟩ := K1.out
  obtain ⟨cv, hcv, hca⟩ := cut_from B1.out rfl (by have := HBL.out; omega) 2 (by have := HBL.out; omega)
  replace hcv : ∀ w, Sem.run Tryz.prog (Instr.slice 28 (.slice ba bl.length bc) (some (.int .i64 2)) none none) w = .ok cv w := hcv
  have HWH := dwhole_any cv (bl.drop 2) w1 hca (fun z hz => HBB.out z (List.mem_of_mem_drop hz)) (by rw [List.length_drop]; have := HBL.out; have := HL6.out; omega)
  rw [HW.out] at HWH
  clear hca
  go_wp2_with fail
  refine Calls.mono HWH ?_
  rintro e wx ⟨rfl, rfl⟩
  clear HWH hcv
  go_wp2_with fail
  refine Calls.mono (HKN _) ?_
  rw [HK.out]
  rintro e wx ⟨rfl, rfl⟩
  clear HKN
  have hq := HQ.out
  go_wp2
  go_ret
  exact ⟨rfl, T1.out⟩

set_option maxHeartbeats 600000 in
theorem rchk_age (h : HV) (ok : h.All) (va : Option Addr) (vc : Nat) (rs : List Int) (w : World) (hv : ArgAt w (.slice va rs.length vc) rs) (hby : ∀ z ∈ rs, 0 ≤ z ∧ z < 256) (hn : rs.length ≤ 131072) (hlen : h.len = 20 + (rs.length : Int)) (hs : h.sum ≠ 0) (hw : whole ((headB h ++ rs).drop 2) = true) (hk : knownB h.typ = true) (hq : h.seq ≠ -2147483648) (ha : 3600 < h.age % 32768) :
    Calls Tryz.prog 26 #[.agg #[.int .u16 h.age, .int .u8 h.opts, .int .u8 h.typ, .int .u32 h.id, .int .u32 h.adv, .int .i32 h.seq, .int .u16 h.sum, .int .u16 h.len, .slice va rs.length vc]] w fun e w' => e = .returned (.int .i64 24) ∧ Touch (fun _ => False) w w' := by
  have HV' : Hid (ArgAt w (.slice va rs.length vc) rs) := hv
  have hw64 : IntKind.i64.wrap h.len = h.len := by have := ok.l; simp [IntKind.wrap, IntKind.bits, IntKind.signed]; omega
  have hnn : (rs.length : Int) ≤ 131072 := by omega
  have HKN := fun w => rknown_any h.typ ok.t.1 w
  have HBT := fun w' (hv : ArgAt w' (.slice va rs.length vc) rs) => rbytes_any h ok (.slice va rs.length vc) rs w' hv hn
  have HDC := fun w' (hv : ArgAt w' (.slice va rs.length vc) rs) => ddecode_any h ok (.slice va rs.length vc) rs w' hv hby hn
  unfold HV.sv at HBT HDC
  unfold BV.v at HDC
  have HBB : Hid (∀ z ∈ headB h ++ rs, 0 ≤ z ∧ z < 256) := fun z hz => by rcases List.mem_append.1 hz with hz | hz; exact headB_byte ok z hz; exact hby z hz
  have HBL : Hid ((headB h ++ rs).length = 20 + rs.length) := by show _ = _; rw [List.length_append, length_headB]
  have hag0 := ok.a.1
  have hag1 := ok.a.2
  have HLN : Hid (h.len = 20 + (rs.length : Int)) := hlen
  have HL6 : Hid (rs.length ≤ 65515) := by have := ok.l; show _ ≤ _; omega
  clear hlen
  have hs' : (h.sum == 0) = false := by simpa using hs
  have HW : Hid (whole ((headB h ++ rs).drop 2) = true) := hw
  clear hs hw
  have HK : Hid (knownB h.typ = true) := hk
  clear hk
  have hq' : (h.seq == -2147483648) = false := by simpa using hq
  have hq2 : ¬ h.seq = -2147483648 := hq
  clear hq
  generalize headB h ++ rs = bl at *
  clear hv ok hby
  go_enter Tryz.func26, Tryz.ntmps26
  go_upto_region 1 with fail
  have K0 : Hid (Sd (w.alloc (.cells #[.int .u16 h.age, .int .u8 h.opts, .int .u8 h.typ, .int .u32 h.id, .int .u32 h.adv, .int .i32 h.seq, .int .u16 h.sum, .int .u16 h.len, .slice va rs.length vc] 35)) w.heap.size h (.slice va rs.length vc)) := Sd.new w h _ _
  have T0 : Hid (Touch (fun _ => False) w (w.alloc (.cells #[.int .u16 h.age, .int .u8 h.opts, .int .u8 h.typ, .int .u32 h.id, .int .u32 h.adv, .int .i32 h.seq, .int .u16 h.sum, .int .u16 h.len, .slice va rs.length vc] 35))) := (Touch.refl _ _).alloc _
  generalize w.alloc (.cells #[.int .u16 h.age, .int .u8 h.opts, .int .u8 h.typ, .int .u32 h.id, .int .u32 h.adv, .int .i32 h.seq, .int .u16 h.sum, .int .u16 h.len, .slice va rs.length vc] 35) = wa at K0 T0 ⊢
  generalize w.heap.size = g1 at K0 ⊢
  obtain ⟨⟨c0, c1, c2, c3, c4, c5, c6, c7⟩, c8⟩ := K0.out
  have hlen := HLN.out.symm
  go_wp2_with fail
  refine Calls.mono (HBT _ (HV'.out.keepN T0.out)) ?_
  rintro e w1 ⟨bv, rfl, b1⟩
  obtain ⟨ba, bc, rfl⟩ := b1.form
  have K1 : Hid (Sd w1 g1 h (.slice va rs.length vc)) := K0.out.keep b1.t
  have T1 : Hid (Touch (fun _ => False) w w1) := T0.out.trans b1.t
  have B1 : Hid (ArgAt w1 (.slice ba bl.length bc) bl) := b1.arg
  clear c0 c1 c2 c3 c4 c5 c6 c7 c8 b1 K0 HBT hlen
  obtain ⟨⟨c0, c1, c2, c3, c4, c5, c6, c7⟩, c8⟩ := K1.out
  obtain ⟨cv, hcv, hca⟩ := cut_from B1.out rfl (by have := HBL.out; omega) 2 (by have := HBL.out; omega)
  replace hcv : ∀ w, Sem.run Tryz.prog (Instr.slice 28 (.slice ba bl.length bc) (some (.int .i64 2)) none none) w = .ok cv w := hcv
  have HWH := dwhole_any cv (bl.drop 2) w1 hca (fun z hz => HBB.out z (List.mem_of_mem_drop hz)) (by rw [List.length_drop]; have := HBL.out; have := HL6.out; omega)
  rw [HW.out] at HWH
  clear hca
  go_wp2_with fail
  refine Calls.mono HWH ?_
  rintro e wx ⟨rfl, rfl⟩
  clear HWH hcv
  go_wp2_with fail
  refine Calls.mono (HKN _) ?_
  rw [HK.out]
  rintro e wx ⟨rfl, rfl⟩
  clear HKN
  go_wp2
  go_ret
  exact ⟨rfl, T1.out⟩

set_option maxHeartbeats 600000 in
theorem rchk_dec (h : HV) (ok : h.All) (va : Option Addr) (vc : Nat) (rs : List Int) (w : World) (hv : ArgAt w (.slice va rs.length vc) rs) (hby : ∀ z ∈ rs, 0 ≤ z ∧ z < 256) (hn : rs.length ≤ 131072) (hlen : h.len = 20 + (rs.length : Int)) (hs : h.sum ≠ 0) (hw : whole ((headB h ++ rs).drop 2) = true) (hk : knownB h.typ = true) (hq : h.seq ≠ -2147483648) (ha : ¬ 3600 < h.age % 32768) :
    Calls Tryz.prog 26 #[.agg #[.int .u16 h.age, .int .u8 h.opts, .int .u8 h.typ, .int .u32 h.id, .int .u32 h.adv, .int .i32 h.seq, .int .u16 h.sum, .int .u16 h.len, .slice va rs.length vc]] w fun e w' => e = .returned (.int .i64 (decE h rs)) ∧ Touch (fun _ => False) w w' := by
  have HV' : Hid (ArgAt w (.slice va rs.length vc) rs) := hv
  have hw64 : IntKind.i64.wrap h.len = h.len := by have := ok.l; simp [IntKind.wrap, IntKind.bits, IntKind.signed]; omega
  have hnn : (rs.length : Int) ≤ 131072 := by omega
  have HKN := fun w => rknown_any h.typ ok.t.1 w
  have HBT := fun w' (hv : ArgAt w' (.slice va rs.length vc) rs) => rbytes_any h ok (.slice va rs.length vc) rs w' hv hn
  have HDC := fun w' (hv : ArgAt w' (.slice va rs.length vc) rs) => ddecode_any h ok (.slice va rs.length vc) rs w' hv hby hn
  unfold HV.sv at HBT HDC
  unfold BV.v at HDC
  have HBB : Hid (∀ z ∈ headB h ++ rs, 0 ≤ z ∧ z < 256) := fun z hz => by rcases List.mem_append.1 hz with hz | hz; exact headB_byte ok z hz; exact hby z hz
  have HBL : Hid ((headB h ++ rs).length = 20 + rs.length) := by show _ = _; rw [List.length_append, length_headB]
  have hag0 := ok.a.1
  have hag1 := ok.a.2
  have HLN : Hid (h.len = 20 + (rs.length : Int)) := hlen
  have HL6 : Hid (rs.length ≤ 65515) := by have := ok.l; show _ ≤ _; omega
  clear hlen
  have hs' : (h.sum == 0) = false := by simpa using hs
  have HW : Hid (whole ((headB h ++ rs).drop 2) = true) := hw
  clear hs hw
  have HK : Hid (knownB h.typ = true) := hk
  clear hk
  have hq' : (h.seq == -2147483648) = false := by simpa using hq
  have hq2 : ¬ h.seq = -2147483648 := hq
  clear hq
  generalize decA h rs = B at *
  generalize decE h rs = E at *
  generalize headB h ++ rs = bl at *
  clear hv ok hby
  go_enter Tryz.func26, Tryz.ntmps26
  go_upto_region 1 with fail
  have K0 : Hid (Sd (w.alloc (.cells #[.int .u16 h.age, .int .u8 h.opts, .int .u8 h.typ, .int .u32 h.id, .int .u32 h.adv, .int .i32 h.seq, .int .u16 h.sum, .int .u16 h.len, .slice va rs.length vc] 35)) w.heap.size h (.slice va rs.length vc)) := Sd.new w h _ _
  have T0 : Hid (Touch (fun _ => False) w (w.alloc (.cells #[.int .u16 h.age, .int .u8 h.opts, .int .u8 h.typ, .int .u32 h.id, .int .u32 h.adv, .int .i32 h.seq, .int .u16 h.sum, .int .u16 h.len, .slice va rs.length vc] 35))) := (Touch.refl _ _).alloc _
  generalize w.alloc (.cells #[.int .u16 h.age, .int .u8 h.opts, .int .u8 h.typ, .int .u32 h.id, .int .u32 h.adv, .int .i32 h.seq, .int .u16 h.sum, .int .u16 h.len, .slice va rs.length vc] 35) = wa at K0 T0 ⊢
  generalize w.heap.size = g1 at K0 ⊢
  obtain ⟨⟨c0, c1, c2, c3, c4, c5, c6, c7⟩, c8⟩ := K0.out
  have hlen := HLN.out.symm
  go_wp2_with fail
  refine Calls.mono (HBT _ (HV'.out.keepN T0.out)) ?_
  rintro e w1 ⟨bv, rfl, b1⟩
  obtain ⟨ba, bc, rfl⟩ := b1.form
  have K1 : Hid (Sd w1 g1 h (.slice va rs.length vc)) := K0.out.keep b1.t
  have T1 : Hid (Touch (fun _ => False) w w1) := T0.out.trans b1.t
  have B1 : Hid (ArgAt w1 (.slice ba bl.length bc) bl) := b1.arg
  clear c0 c1 c2 c3 c4 c5 c6 c7 c8 b1 K0 HBT hlen
  obtain ⟨⟨c0, c1, c2, c3, c4, c5, c6, c7⟩, c8⟩ := K1.out
  obtain ⟨cv, hcv, hca⟩ := cut_from B1.out rfl (by have := HBL.out; omega) 2 (by have := HBL.out; omega)
  replace hcv : ∀ w, Sem.run Tryz.prog (Instr.slice 28 (.slice ba bl.length bc) (some (.int .i64 2)) none none) w = .ok cv w := hcv
  have HWH := dwhole_any cv (bl.drop 2) w1 hca (fun z hz => HBB.out z (List.mem_of_mem_drop hz)) (by rw [List.length_drop]; have := HBL.out; have := HL6.out; omega)
  rw [HW.out] at HWH
  clear hca
  go_wp2_with fail
  refine Calls.mono HWH ?_
  rintro e wx ⟨rfl, rfl⟩
  clear HWH hcv
  go_wp2_with fail
  refine Calls.mono (HKN _) ?_
  rw [HK.out]
  rintro e wx ⟨rfl, rfl⟩
  clear HKN
  go_wp2_with fail
  refine Calls.mono (HDC _ (HV'.out.keepN T1.out)) ?_
  rintro e w2 ⟨vl, vr, vd, rfl, bo, t2⟩
  obtain ⟨a1, q1, a3, q3, a8, q8, rfl, rfl, rfl⟩ := bo.form
  have T2 : Hid (Touch (fun _ => False) w w2) := T1.out.trans t2
  clear bo t2 HDC
  go_wp2
  go_ret
  exact ⟨rfl, T2.out.alloc _⟩

theorem and15' {n : Int} (h0 : 0 ≤ n) (h : n < 65536) : bits .andNot .u16 n 32768 = n % 32768 := by
  rw [u16_andNot n _ h0 h (by omega) (by omega), show 65535 - (32768 : Int).toNat = 2 ^ 15 - 1 from rfl, Nat.and_two_pow_sub_one_eq_mod]
  omega
theorem dcheck_any (h : HV) (ok : h.All) (v : Value) (rs : List Int) (w : World) (hv : ArgAt w v rs) (hby : ∀ z ∈ rs, 0 ≤ z ∧ z < 256) (hn : rs.length ≤ 131072) :
    Calls Tryz.prog 26 #[h.sv v] w fun e w' => e = .returned (.int .i64 (chkE h rs)) ∧ Touch (fun _ => False) w w' := by
  obtain ⟨va, vc, rfl, hm⟩ := hv.form
  have ha := and15' ok.a.1 ok.a.2
  by_cases h1 : h.len = 20 + (rs.length : Int)
  · by_cases h2 : h.sum = 0
    · rw [show chkE h rs = 23 by simp [chkE, h1, h2]]
      exact rchk_sum0 h ok va vc rs w hv hby hn h1 h2
    · cases h3 : whole ((headB h ++ rs).drop 2) with
      | false =>
        rw [show chkE h rs = 23 by simp [chkE, h1, h3]]
        exact rchk_whole h ok va vc rs w hv hby hn h1 h2 h3
      | true =>
        cases hk : knownB h.typ with
        | false =>
          rw [show chkE h rs = 21 by simp [chkE, h1, h2, h3, hk]]
          exact rchk_unk h ok va vc rs w hv hby hn h1 h2 h3 hk
        | true =>
          by_cases h4 : h.seq = -2147483648
          · rw [show chkE h rs = 24 by simp [chkE, h1, h2, h3, hk, h4]]
            exact rchk_seq h ok va vc rs w hv hby hn h1 h2 h3 hk h4
          · by_cases h5 : 3600 < h.age % 32768
            · have h5' : ¬ h.age % 32768 ≤ 3600 := by omega
              rw [show chkE h rs = 24 by unfold chkE; rw [ha]; simp [h1, h2, h3, hk, h4]; omega]
              exact rchk_age h ok va vc rs w hv hby hn h1 h2 h3 hk h4 h5
            · have h5' : h.age % 32768 ≤ 3600 := by omega
              rw [show chkE h rs = decE h rs by unfold chkE decE; rw [ha]; simp [h1, h2, h3, hk, h4, h5']]
              exact rchk_dec h ok va vc rs w hv hby hn h1 h2 h3 hk h4 h5
  · rw [show chkE h rs = 22 by simp [chkE, h1]]
    exact rchk_len h ok va vc rs w hv hby hn h1
end Go.Proofs.YthdkihnmeoacaaaGreatDoor
