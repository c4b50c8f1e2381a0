/- 'lodestarlaw05.OrderTells': the walk. -/
import Derived.Test.YtfflkconbpiflaaOrdRef2
import Derived.Deep.DeepCutAuto
namespace Go.Proofs.Ytfflkconbpiflaa
open Go.RowKit
set_option linter.unusedVariables false
set_option maxRecDepth 100000

def KV.cmp (k l : KV) : Int := keyI k.typ k.id k.adv l.typ l.id l.adv
theorem keys_kv (k l : KV) (x : Int) (hx : k.cmp l = x) (w : World) : Calls Try.prog 15 #[k.v, l.v] w fun e w' => e = .returned (.int .i64 x) ∧ Touch (fun _ => False) w w' := by
  rw [← hx]; exact keys_any k.typ k.id k.adv l.typ l.id l.adv w
theorem rkeys_kv (k l : KV) (hk : k.Ok) (hl : l.Ok) (x : Int) (hx : k.cmp l = x) (w : World) : Calls Try.prog 16 #[k.v, l.v] w fun e w' => e = .returned (.int .i64 x) ∧ Touch (fun _ => False) w w' := by
  rw [← hx]; exact rkeys_any k.typ k.id k.adv l.typ l.id l.adv hk.t hk.i hk.a hl.t hl.i hl.a w
theorem rnewer_hv (a b : HV) (ha : a.Ok) (hb : b.Ok) (sa : a.OkS) (sb : b.OkS) (x : Int) (hx : a.new b = x) (w : World) :
    Calls Try.prog 14 #[a.v, b.v] w fun e w' => e = .returned (.int .i64 x) ∧ Touch (fun _ => False) w w' := by
  rw [← hx]
  exact rnewer_any a.age a.opts a.typ a.id a.adv a.seq a.sum a.len b.age b.opts b.typ b.id b.adv b.seq b.sum b.len ha.a0 ha.a1 hb.a0 hb.a1 ha.s0 ha.s1 hb.s0 hb.s1 sa.1 sa.2 sb.1 sb.2 w
theorem Calls.touch {P : Program} {f : FuncId} {args : Array Value} {w : World} {v : Value} (h : Calls P f args w fun e w' => e = .returned v ∧ w = w') : Calls P f args w fun e w' => e = .returned v ∧ Touch (fun _ => False) w w' :=
  h.mono fun e w' ⟨he, hw⟩ => ⟨he, hw ▸ Touch.refl _ w⟩
theorem nexts_sym (x : Int) (h0 : -2147483648 ≤ x) (h1 : x ≤ 2147483647) : ∃ n is, (∀ w, Calls Try.prog 5 #[.int .i32 x] w fun e w' => e = .returned (.tuple #[.int .i32 n, .bool is]) ∧ w = w') ∧ (∀ w, Calls Try.prog 6 #[.int .i32 x] w fun e w' => e = .returned (.tuple #[.int .i32 n, .bool is]) ∧ w = w') := by
  by_cases h : x = 2147483647
  · subst h
    exact ⟨0, false, next_last, rnext_last⟩
  · exact ⟨x + 1, true, fun w => next_more x h0 (by omega) w, fun w => rnext_more x h0 (by omega) w⟩

set_option maxHeartbeats 4000000 in
theorem tells_any (a b : HV) (p : Int) (k l : KV) (ha : a.Ok) (hb : b.Ok) (sa : a.OkS) (sb : b.OkS) (hk : k.Ok) (hl : l.Ok) (w : World) :
    Calls Try.prog 3 #[a.v, b.v, .int .i64 p, k.v, l.v] w fun e w' => e = .returned (.bool true) ∧ Touch (fun _ => False) w w' := by
  have HA : Hid a.Ok := ha
  have HB : Hid b.Ok := hb
  have SA : Hid a.OkS := sa
  have SB : Hid b.OkS := sb
  have HK : Hid k.Ok := hk
  have HL : Hid l.Ok := hl
  clear ha hb sa sb hk hl
  obtain ⟨n, is, HN, HRN⟩ := nexts_sym a.seq HA.out.s0 HA.out.s1
  obtain ⟨y, GY⟩ : ∃ y, Hid (cmpI a.seq b.seq = y) := ⟨_, rfl⟩
  obtain ⟨z, GZ⟩ : ∃ z, Hid (ageI a.age p = z) := ⟨_, rfl⟩
  obtain ⟨d, GD⟩ : ∃ d, Hid (decide (yrs a.age = 3600) = d) := ⟨_, rfl⟩
  obtain ⟨x, GX⟩ : ∃ x, Hid (a.new b = x) := ⟨_, rfl⟩
  obtain ⟨c, GC⟩ : ∃ c, Hid (k.cmp l = c) := ⟨_, rfl⟩
  show Calls Try.prog 3 #[.agg #[.int .u16 a.age, .int .u8 a.opts, .int .u8 a.typ, .int .u32 a.id, .int .u32 a.adv, .int .i32 a.seq, .int .u16 a.sum, .int .u16 a.len], .agg #[.int .u16 b.age, .int .u8 b.opts, .int .u8 b.typ, .int .u32 b.id, .int .u32 b.adv, .int .i32 b.seq, .int .u16 b.sum, .int .u16 b.len], .int .i64 p, .agg #[.int .u8 k.typ, .int .u32 k.id, .int .u32 k.adv], .agg #[.int .u8 l.typ, .int .u32 l.id, .int .u32 l.adv]] w _
  go_enter Try.func3, Try.ntmps3
  go_wp2_with fail
  refine Calls.mono (HN _) ?_
  rintro e w1 ⟨rfl, rfl⟩
  clear HN
  go_wp2_with fail
  refine Calls.mono (HRN _) ?_
  rintro e w1 ⟨rfl, rfl⟩
  clear HRN
  go_upto_region 3 with fail
  have z1 : (w.alloc (.cells #[.int .u16 a.age, .int .u8 a.opts, .int .u8 a.typ, .int .u32 a.id, .int .u32 a.adv, .int .i32 a.seq, .int .u16 a.sum, .int .u16 a.len] 25)).heap.size = w.heap.size + 1 := by simp [go_sem]
  have z2 : ((w.alloc (.cells #[.int .u16 a.age, .int .u8 a.opts, .int .u8 a.typ, .int .u32 a.id, .int .u32 a.adv, .int .i32 a.seq, .int .u16 a.sum, .int .u16 a.len] 25)).alloc (.cells #[.int .u16 b.age, .int .u8 b.opts, .int .u8 b.typ, .int .u32 b.id, .int .u32 b.adv, .int .i32 b.seq, .int .u16 b.sum, .int .u16 b.len] 25)).heap.size = w.heap.size + 1 + 1 := by simp [go_sem]
  have z3 : (((w.alloc (.cells #[.int .u16 a.age, .int .u8 a.opts, .int .u8 a.typ, .int .u32 a.id, .int .u32 a.adv, .int .i32 a.seq, .int .u16 a.sum, .int .u16 a.len] 25)).alloc (.cells #[.int .u16 b.age, .int .u8 b.opts, .int .u8 b.typ, .int .u32 b.id, .int .u32 b.adv, .int .i32 b.seq, .int .u16 b.sum, .int .u16 b.len] 25)).alloc (.cells #[.int .u8 k.typ, .int .u32 k.id, .int .u32 k.adv] 27)).heap.size = w.heap.size + 1 + 1 + 1 := by simp [go_sem]
  have K0a : Hid (Hd ((((w.alloc (.cells #[.int .u16 a.age, .int .u8 a.opts, .int .u8 a.typ, .int .u32 a.id, .int .u32 a.adv, .int .i32 a.seq, .int .u16 a.sum, .int .u16 a.len] 25)).alloc (.cells #[.int .u16 b.age, .int .u8 b.opts, .int .u8 b.typ, .int .u32 b.id, .int .u32 b.adv, .int .i32 b.seq, .int .u16 b.sum, .int .u16 b.len] 25)).alloc (.cells #[.int .u8 k.typ, .int .u32 k.id, .int .u32 k.adv] 27)).alloc (.cells #[.int .u8 l.typ, .int .u32 l.id, .int .u32 l.adv] 27)) w.heap.size a) := (Hd.new w a _).keep ((((Touch.refl _ _).alloc _).alloc _).alloc _)
  have K0b : Hid (Hd ((((w.alloc (.cells #[.int .u16 a.age, .int .u8 a.opts, .int .u8 a.typ, .int .u32 a.id, .int .u32 a.adv, .int .i32 a.seq, .int .u16 a.sum, .int .u16 a.len] 25)).alloc (.cells #[.int .u16 b.age, .int .u8 b.opts, .int .u8 b.typ, .int .u32 b.id, .int .u32 b.adv, .int .i32 b.seq, .int .u16 b.sum, .int .u16 b.len] 25)).alloc (.cells #[.int .u8 k.typ, .int .u32 k.id, .int .u32 k.adv] 27)).alloc (.cells #[.int .u8 l.typ, .int .u32 l.id, .int .u32 l.adv] 27)) (w.heap.size + 1) b) := z1 ▸ (Hd.new (w.alloc (.cells #[.int .u16 a.age, .int .u8 a.opts, .int .u8 a.typ, .int .u32 a.id, .int .u32 a.adv, .int .i32 a.seq, .int .u16 a.sum, .int .u16 a.len] 25)) b _).keep (((Touch.refl _ _).alloc _).alloc _)
  have K0k : Hid (Ky ((((w.alloc (.cells #[.int .u16 a.age, .int .u8 a.opts, .int .u8 a.typ, .int .u32 a.id, .int .u32 a.adv, .int .i32 a.seq, .int .u16 a.sum, .int .u16 a.len] 25)).alloc (.cells #[.int .u16 b.age, .int .u8 b.opts, .int .u8 b.typ, .int .u32 b.id, .int .u32 b.adv, .int .i32 b.seq, .int .u16 b.sum, .int .u16 b.len] 25)).alloc (.cells #[.int .u8 k.typ, .int .u32 k.id, .int .u32 k.adv] 27)).alloc (.cells #[.int .u8 l.typ, .int .u32 l.id, .int .u32 l.adv] 27)) (w.heap.size + 1 + 1) k) := z2 ▸ (Ky.new ((w.alloc (.cells #[.int .u16 a.age, .int .u8 a.opts, .int .u8 a.typ, .int .u32 a.id, .int .u32 a.adv, .int .i32 a.seq, .int .u16 a.sum, .int .u16 a.len] 25)).alloc (.cells #[.int .u16 b.age, .int .u8 b.opts, .int .u8 b.typ, .int .u32 b.id, .int .u32 b.adv, .int .i32 b.seq, .int .u16 b.sum, .int .u16 b.len] 25)) k _).keep ((Touch.refl _ _).alloc _)
  have K0l : Hid (Ky ((((w.alloc (.cells #[.int .u16 a.age, .int .u8 a.opts, .int .u8 a.typ, .int .u32 a.id, .int .u32 a.adv, .int .i32 a.seq, .int .u16 a.sum, .int .u16 a.len] 25)).alloc (.cells #[.int .u16 b.age, .int .u8 b.opts, .int .u8 b.typ, .int .u32 b.id, .int .u32 b.adv, .int .i32 b.seq, .int .u16 b.sum, .int .u16 b.len] 25)).alloc (.cells #[.int .u8 k.typ, .int .u32 k.id, .int .u32 k.adv] 27)).alloc (.cells #[.int .u8 l.typ, .int .u32 l.id, .int .u32 l.adv] 27)) (w.heap.size + 1 + 1 + 1) l) := z3 ▸ Ky.new (((w.alloc (.cells #[.int .u16 a.age, .int .u8 a.opts, .int .u8 a.typ, .int .u32 a.id, .int .u32 a.adv, .int .i32 a.seq, .int .u16 a.sum, .int .u16 a.len] 25)).alloc (.cells #[.int .u16 b.age, .int .u8 b.opts, .int .u8 b.typ, .int .u32 b.id, .int .u32 b.adv, .int .i32 b.seq, .int .u16 b.sum, .int .u16 b.len] 25)).alloc (.cells #[.int .u8 k.typ, .int .u32 k.id, .int .u32 k.adv] 27)) l _
  have T0 : Hid (Touch (fun _ => False) w ((((w.alloc (.cells #[.int .u16 a.age, .int .u8 a.opts, .int .u8 a.typ, .int .u32 a.id, .int .u32 a.adv, .int .i32 a.seq, .int .u16 a.sum, .int .u16 a.len] 25)).alloc (.cells #[.int .u16 b.age, .int .u8 b.opts, .int .u8 b.typ, .int .u32 b.id, .int .u32 b.adv, .int .i32 b.seq, .int .u16 b.sum, .int .u16 b.len] 25)).alloc (.cells #[.int .u8 k.typ, .int .u32 k.id, .int .u32 k.adv] 27)).alloc (.cells #[.int .u8 l.typ, .int .u32 l.id, .int .u32 l.adv] 27))) := ((((Touch.refl _ _).alloc _).alloc _).alloc _).alloc _
  clear z1 z2 z3
  generalize ((((w.alloc (.cells #[.int .u16 a.age, .int .u8 a.opts, .int .u8 a.typ, .int .u32 a.id, .int .u32 a.adv, .int .i32 a.seq, .int .u16 a.sum, .int .u16 a.len] 25)).alloc (.cells #[.int .u16 b.age, .int .u8 b.opts, .int .u8 b.typ, .int .u32 b.id, .int .u32 b.adv, .int .i32 b.seq, .int .u16 b.sum, .int .u16 b.len] 25)).alloc (.cells #[.int .u8 k.typ, .int .u32 k.id, .int .u32 k.adv] 27)).alloc (.cells #[.int .u8 l.typ, .int .u32 l.id, .int .u32 l.adv] 27)) = w0 at K0a K0b K0k K0l T0 ⊢
  generalize w.heap.size + 1 + 1 + 1 = gl at K0l ⊢
  generalize w.heap.size + 1 + 1 = gk at K0k ⊢
  generalize w.heap.size + 1 = gb at K0b ⊢
  generalize w.heap.size = ga at K0a ⊢
  obtain ⟨a0, a1, a2, a3, a4, a5, a6, a7⟩ := K0a.out
  have pa0 := aft_cell a0
  have pa1 := aft_cell a1
  have pa2 := aft_cell a2
  have pa3 := aft_cell a3
  have pa4 := aft_cell a4
  have pa5 := aft_cell a5
  have pa6 := aft_cell a6
  have pa7 := aft_cell a7
  clear a0 a1 a2 a3 a4 a5 a6 a7
  obtain ⟨b0, b1, b2, b3, b4, b5, b6, b7⟩ := K0b.out
  have pb0 := aft_cell b0
  have pb1 := aft_cell b1
  have pb2 := aft_cell b2
  have pb3 := aft_cell b3
  have pb4 := aft_cell b4
  have pb5 := aft_cell b5
  have pb6 := aft_cell b6
  have pb7 := aft_cell b7
  clear b0 b1 b2 b3 b4 b5 b6 b7
  cases is <;> cases d
  all_goals (
    refine wp_region_aft (by kernel_rfl) (by kernel_rfl) ?_
    repeat (first | go_big_quiet_skip | (go_big_quiet_want; go_big_quiet_op; first | go_big_quiet_on | (refine Exists.intro _ ⟨fun _ => rfl, ?_⟩; go_big_quiet_on)))
    go_big_quiet_want; go_big_quiet_op; refine Exists.intro _ ⟨fun u => Aft.call (seq_hv _ _ _ GY.out _), ?_⟩; go_big_quiet_on
    repeat (first | go_big_quiet_skip | (go_big_quiet_want; go_big_quiet_op; first | go_big_quiet_on | (refine Exists.intro _ ⟨fun _ => rfl, ?_⟩; go_big_quiet_on)))
    go_big_quiet_want; go_big_quiet_op; refine Exists.intro _ ⟨fun u => Aft.call (Calls.touch (rseq_any _ _ _ GY.out HA.out.s0 HA.out.s1 HB.out.s0 HB.out.s1 _)), ?_⟩; go_big_quiet_on
    repeat (first | go_big_quiet_skip | (go_big_quiet_want; go_big_quiet_op; first | go_big_quiet_on | (refine Exists.intro _ ⟨fun _ => rfl, ?_⟩; go_big_quiet_on)))
    go_big_quiet_want; go_big_quiet_op; refine Exists.intro _ ⟨fun u => Aft.call (age_hv _ _ HA.out.a0 HA.out.a1 _ GZ.out _), ?_⟩; go_big_quiet_on
    repeat (first | go_big_quiet_skip | (go_big_quiet_want; go_big_quiet_op; first | go_big_quiet_on | (refine Exists.intro _ ⟨fun _ => rfl, ?_⟩; go_big_quiet_on)))
    go_big_quiet_want; go_big_quiet_op; refine Exists.intro _ ⟨fun u => Aft.call (Calls.touch (rage_any _ _ _ HA.out.a0 HA.out.a1 GZ.out _)), ?_⟩; go_big_quiet_on
    repeat (first | go_big_quiet_skip | (go_big_quiet_want; go_big_quiet_op; first | go_big_quiet_on | (refine Exists.intro _ ⟨fun _ => rfl, ?_⟩; go_big_quiet_on)))
    go_big_quiet_want; go_big_quiet_op; refine Exists.intro _ ⟨fun u => Aft.call (old_hv _ HA.out.a0 HA.out.a1 _ GD.out _), ?_⟩; go_big_quiet_on
    repeat (first | go_big_quiet_skip | (go_big_quiet_want; go_big_quiet_op; first | go_big_quiet_on | (refine Exists.intro _ ⟨fun _ => rfl, ?_⟩; go_big_quiet_on)))
    go_big_quiet_want; go_big_quiet_op; refine Exists.intro _ ⟨fun u => Aft.call (Calls.touch (rold_any _ HA.out.a0 HA.out.a1 _ GD.out _)), ?_⟩; go_big_quiet_on
    repeat (first | go_big_quiet_skip | (go_big_quiet_want; go_big_quiet_op; first | go_big_quiet_on | (refine Exists.intro _ ⟨fun _ => rfl, ?_⟩; go_big_quiet_on)))
    refine wpQuiet_nil ?_
    rintro wq ⟨⟨_, hgq⟩, rfl⟩
    clear pa0 pa1 pa2 pa3 pa4 pa5 pa6 pa7 pb0 pb1 pb2 pb3 pb4 pb5 pb6 pb7
    have K1a : Hid (Hd wq ga a) := K0a.out.keep hgq
    have K1b : Hid (Hd wq gb b) := K0b.out.keep hgq
    have K1k : Hid (Ky wq gk k) := K0k.out.keep hgq
    have K1l : Hid (Ky wq gl l) := K0l.out.keep hgq
    have T1 : Hid (Touch (fun _ => False) w wq) := T0.out.trans hgq
    clear K0a K0b K0k K0l T0 hgq
    go_wp2_with fail
    obtain ⟨a0, a1, a2, a3, a4, a5, a6, a7⟩ := K1a.out
    have pa0 := aft_cell a0
    have pa1 := aft_cell a1
    have pa2 := aft_cell a2
    have pa3 := aft_cell a3
    have pa4 := aft_cell a4
    have pa5 := aft_cell a5
    have pa6 := aft_cell a6
    have pa7 := aft_cell a7
    clear a0 a1 a2 a3 a4 a5 a6 a7
    obtain ⟨b0, b1, b2, b3, b4, b5, b6, b7⟩ := K1b.out
    have pb0 := aft_cell b0
    have pb1 := aft_cell b1
    have pb2 := aft_cell b2
    have pb3 := aft_cell b3
    have pb4 := aft_cell b4
    have pb5 := aft_cell b5
    have pb6 := aft_cell b6
    have pb7 := aft_cell b7
    clear b0 b1 b2 b3 b4 b5 b6 b7
    obtain ⟨k0, k1, k2⟩ := K1k.out
    have pk0 := aft_cell k0
    have pk1 := aft_cell k1
    have pk2 := aft_cell k2
    clear k0 k1 k2
    obtain ⟨l0, l1, l2⟩ := K1l.out
    have pl0 := aft_cell l0
    have pl1 := aft_cell l1
    have pl2 := aft_cell l2
    clear l0 l1 l2
    refine wp_region_aft (by kernel_rfl) (by kernel_rfl) ?_
    repeat (first | go_big_quiet_skip | (go_big_quiet_want; go_big_quiet_op; first | go_big_quiet_on | (refine Exists.intro _ ⟨fun _ => rfl, ?_⟩; go_big_quiet_on)))
    go_big_quiet_want; go_big_quiet_op; refine Exists.intro _ ⟨fun u => Aft.call (newer_hv a b HA.out HB.out _ GX.out _), ?_⟩; go_big_quiet_on
    repeat (first | go_big_quiet_skip | (go_big_quiet_want; go_big_quiet_op; first | go_big_quiet_on | (refine Exists.intro _ ⟨fun _ => rfl, ?_⟩; go_big_quiet_on)))
    go_big_quiet_want; go_big_quiet_op; refine Exists.intro _ ⟨fun u => Aft.call (rnewer_hv a b HA.out HB.out SA.out SB.out _ GX.out _), ?_⟩; go_big_quiet_on
    repeat (first | go_big_quiet_skip | (go_big_quiet_want; go_big_quiet_op; first | go_big_quiet_on | (refine Exists.intro _ ⟨fun _ => rfl, ?_⟩; go_big_quiet_on)))
    go_big_quiet_want; go_big_quiet_op; refine Exists.intro _ ⟨fun u => Aft.call (keys_kv k l _ GC.out _), ?_⟩; go_big_quiet_on
    repeat (first | go_big_quiet_skip | (go_big_quiet_want; go_big_quiet_op; first | go_big_quiet_on | (refine Exists.intro _ ⟨fun _ => rfl, ?_⟩; go_big_quiet_on)))
    go_big_quiet_want; go_big_quiet_op; refine Exists.intro _ ⟨fun u => Aft.call (rkeys_kv k l HK.out HL.out _ GC.out _), ?_⟩; go_big_quiet_on
    repeat (first | go_big_quiet_skip | (go_big_quiet_want; go_big_quiet_op; first | go_big_quiet_on | (refine Exists.intro _ ⟨fun _ => rfl, ?_⟩; go_big_quiet_on)))
    go_big_quiet_want; go_big_quiet_op; refine Exists.intro _ ⟨fun u => Aft.call (lives_any _), ?_⟩; go_big_quiet_on
    repeat (first | go_big_quiet_skip | (go_big_quiet_want; go_big_quiet_op; first | go_big_quiet_on | (refine Exists.intro _ ⟨fun _ => rfl, ?_⟩; go_big_quiet_on)))
    refine wpQuiet_nil ?_
    rintro wr ⟨⟨_, hgr⟩, rfl⟩
    clear pa0 pa1 pa2 pa3 pa4 pa5 pa6 pa7 pb0 pb1 pb2 pb3 pb4 pb5 pb6 pb7 pk0 pk1 pk2 pl0 pl1 pl2
    go_wp2_with fail
    go_ret
    exact ⟨rfl, T1.out.trans hgr⟩)
end Go.Proofs.Ytfflkconbpiflaa
