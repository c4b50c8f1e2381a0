/- How large a packet is; which are too heavy. -/
import Derived.Test.YtjgeklipeeooaaaGreatDoorPkEq
import Derived.Deep.QuietTactic
import Derived.BigQuiet
import Derived.Test.YtjgeklipeeooaaaGreatDoorRefPk
import Derived.Test.YtjgeklipeeooaaaGreatDoorPkDec
import Derived.Test.YtjgeklipeeooaaaGreatDoorPkRows
namespace Go.Proofs.YtjgeklipeeooaaaGreatDoor
open Go.RowKit
set_option linter.unusedVariables false
set_option maxRecDepth 100000

structure PkC.Sz (C : PkC) : Prop where
  n : C.nb.length ≤ 140737488355328
  d : C.dh.length ≤ 140737488355328
  k : C.ks.length ≤ 140737488355328
  s : C.ss.length ≤ 140737488355328
  b : ∀ s ∈ C.ss, s.2.length ≤ 140737488355328
  h : C.hs.length ≤ 140737488355328
structure SzR (l : List SE) (gg : Nat) (s3 s4 : Value) (w wr : World) : Prop where
  out : ∃ k N : Nat, k ≤ l.length ∧ gg = l.length - k ∧ s3 = .int .i64 (N : Int) ∧ s4 = .int .i64 (k : Int) ∧ N ≤ 3000000000000000 ∧ 20 * l.length ≤ N ∧ (∀ i x, i < k → l[i]? = some x → x.rs.length ≤ N) ∧ wr = w
set_option maxHeartbeats 2000000 in
theorem sstatesP (v : Value) (l : List SE) (w : World) (hv : StatesAt w v l) (hs : l.length ≤ 140737488355328) (hb : ∀ x ∈ l, x.rs.length ≤ 140737488355328) :
    Calls Tryz.prog 85 #[v] w fun e w' => ∃ N : Nat, e = .returned (.int .i64 (N : Int)) ∧ N ≤ 3000000000000000 ∧ (N ≤ 262144 → 20 * l.length ≤ N ∧ ∀ x ∈ l, x.rs.length ≤ N) ∧ w' = w := by
  obtain ⟨va, vc, rfl, -⟩ := ValsAt.form hv.vals
  have HV : Hid (StatesAt w (.slice va l.length vc) l) := hv
  have HB : Hid (∀ x ∈ l, x.rs.length ≤ 140737488355328) := hb
  have h20 : wrap64 (20 * (l.length : Int)) = ((20 * l.length : Nat) : Int) := by unfold wrap64; omega
  have REL : Hid (SzR l l.length (.int .i64 ((20 * l.length : Nat) : Int)) (.int .i64 0) w w) := ⟨0, 20 * l.length, by omega, by omega, rfl, rfl, by omega, by omega, by omega, rfl⟩
  clear hv hb
  go_enter Tryz.func85, Tryz.ntmps85
  go_wp2_with fail
  go_loopg [3, 4] l.length (fun gg s3 s4 wr => SzR l gg s3 s4 w wr)
  case atStart => exact REL.out
  case round =>
    obtain ⟨k, N, hk, hgg, rfl, rfl, hN, hlo, hall, rfl⟩ := hrel.out
    have HA : Hid (∀ i x, i < k → l[i]? = some x → x.rs.length ≤ N) := hall
    have HL : Hid (20 * l.length ≤ N) := hlo
    clear REL hrel h20 hall hlo
    by_cases hlt : k < l.length
    · have hlt' : (k : Int) < (l.length : Int) := by omega
      by_cases hn : N ≤ 2147483647
      · have hn' : (N : Int) ≤ 2147483647 := by omega
        have hk00 : (0 : Int) ≤ (k : Int) := by omega
        obtain ⟨x, hx⟩ : ∃ x, l[k]? = some x := ⟨l[k], List.getElem?_eq_getElem _⟩
        obtain ⟨ox, g, o, c, eg, hc⟩ := StatesAt.one HV.out hx
        obtain ⟨xa, xc, ex, -⟩ := ox.arg.form
        simp only [Value.slice.injEq] at eg
        obtain ⟨rfl, -, rfl⟩ := eg
        have xl := HB.out x (List.mem_of_getElem? hx)
        have x8 : wr.cell? ⟨g, o + k * 9 + 8, none⟩ = some (.slice xa x.rs.length xc) := by rw [← ex]; rw [Nat.add_assoc]; exact hc 8 _ rfl
        have HN : Hid (SzR l (l.length - (k + 1)) (.int .i64 ((N + x.rs.length : Nat) : Int)) (.int .i64 ((k + 1 : Nat) : Int)) wr wr) := by
          refine ⟨k + 1, N + x.rs.length, by omega, rfl, rfl, rfl, by omega, by have := HL.out; omega, fun i y hi hy => ?_, rfl⟩
          rcases Nat.lt_or_ge i k with h | h
          · have := HA.out i y h hy; omega
          · obtain rfl : i = k := by omega
            rw [hx] at hy
            obtain rfl := Option.some.inj hy
            omega
        have hkw : wrap64 ((k : Int) + 1) = ((k + 1 : Nat) : Int) := by unfold wrap64; omega
        clear ox hc ex hx HV HB HA HL
        generalize x.rs.length = L at *
        have hnw : wrap64 ((N : Int) + (L : Int)) = ((N + L : Nat) : Int) := by unfold wrap64; omega
        go_wp2_with fail
        go_roundg (l.length - (k + 1))
        case measure => omega
        case rel => exact HN.out
      · have hn' : ¬ (N : Int) ≤ 2147483647 := by omega
        go_wp2_with fail
        go_ret
        exact ⟨N, rfl, hN, fun h => by omega, rfl⟩
    · obtain rfl : k = l.length := by omega
      have hlt' : ¬ (l.length : Int) < (l.length : Int) := by omega
      go_wp2_with fail
      go_ret
      exact ⟨N, rfl, hN, fun h => ⟨HL.out, fun x hx => by obtain ⟨i, hi, e⟩ := List.mem_iff_getElem.mp hx; exact HA.out i x hi (by rw [← e]; exact List.getElem?_eq_getElem hi)⟩, rfl⟩
theorem szw (b d k N h : Nat) (z1 : b ≤ 140737488355328) (z2 : d ≤ 140737488355328) (z3 : k ≤ 140737488355328) (z4 : N ≤ 3000000000000000) (z5 : h ≤ 140737488355328) :
    IntKind.i64.wrap (IntKind.i64.wrap (IntKind.i64.wrap (IntKind.i64.wrap (IntKind.i64.wrap (4 * (b : Int)) + IntKind.i64.wrap (20 * (d : Int))) + IntKind.i64.wrap (12 * (k : Int))) + (N : Int)) + IntKind.i64.wrap (20 * (h : Int))) = ((4 * b + 20 * d + 12 * k + N + 20 * h : Nat) : Int) := by
  have m1 : IntKind.i64.wrap (4 * (b : Int)) = 4 * (b : Int) := IntWalk.i64_in _ (by omega)
  have m2 : IntKind.i64.wrap (20 * (d : Int)) = 20 * (d : Int) := IntWalk.i64_in _ (by omega)
  have m3 : IntKind.i64.wrap (12 * (k : Int)) = 12 * (k : Int) := IntWalk.i64_in _ (by omega)
  have m4 : IntKind.i64.wrap (20 * (h : Int)) = 20 * (h : Int) := IntWalk.i64_in _ (by omega)
  rw [m1, m2, m3, m4]
  have a1 : IntKind.i64.wrap (4 * (b : Int) + 20 * (d : Int)) = 4 * (b : Int) + 20 * (d : Int) := IntWalk.i64_in _ (by omega)
  rw [a1]
  have a2 : IntKind.i64.wrap (4 * (b : Int) + 20 * (d : Int) + 12 * (k : Int)) = 4 * (b : Int) + 20 * (d : Int) + 12 * (k : Int) := IntWalk.i64_in _ (by omega)
  rw [a2]
  have a3 : IntKind.i64.wrap (4 * (b : Int) + 20 * (d : Int) + 12 * (k : Int) + (N : Int)) = 4 * (b : Int) + 20 * (d : Int) + 12 * (k : Int) + (N : Int) := IntWalk.i64_in _ (by omega)
  rw [a3, IntWalk.i64_in _ (by omega)]
  omega
set_option maxHeartbeats 2000000 in
theorem spacketP (C : PkC) (sz : C.Sz) (vn vd vk vs vh : Value) (w : World) (hp : PkAt w C vn vd vk vs vh) :
    Calls Tryz.prog 26 #[C.P.v vn vd vk vs vh] w fun e w' => ∃ N : Nat, e = .returned (.int .i64 (N : Int)) ∧ (N ≤ 262144 → C.Lt ∧ C.Ln) ∧ Touch (fun _ => False) w w' := by
  obtain ⟨l, hl, hst⟩ := hp.s
  obtain ⟨na, nc, rfl, -⟩ := ValsAt.form hp.n
  obtain ⟨da, dc, rfl, -⟩ := ValsAt.form hp.d
  obtain ⟨ka, kc, rfl, -⟩ := ValsAt.form hp.k
  obtain ⟨sa, sc, rfl, -⟩ := ValsAt.form hst.vals
  obtain ⟨ha, hc, rfl, -⟩ := ValsAt.form hp.h
  have hll : l.length = C.ss.length := by rw [← hl, List.length_map]
  have HS : Hid (∀ w', Touch (fun _ => False) w w' → Calls Tryz.prog 85 #[.slice sa l.length sc] w' fun e w'' => ∃ N : Nat, e = .returned (.int .i64 (N : Int)) ∧ N ≤ 3000000000000000 ∧ (N ≤ 262144 → C.Lt) ∧ w'' = w') := fun w' t => by
    refine (sstatesP _ l w' (hst.keep t) (by rw [hll]; exact sz.s) (fun x hx => sz.b x.p (by rw [← hl]; exact List.mem_map_of_mem hx))).mono ?_
    rintro e w'' ⟨N, rfl, h1, h2, h3⟩
    refine ⟨N, rfl, h1, fun h => ?_, h3⟩
    obtain ⟨q1, q2⟩ := h2 h
    refine ⟨by omega, fun s hs => ?_⟩
    rw [← hl] at hs
    obtain ⟨x, hx, rfl⟩ := List.mem_map.mp hs
    have := q2 x hx
    show x.rs.length ≤ _
    omega
  obtain ⟨z1, z2, z3, z4, -, z5⟩ := sz
  clear hp hst hl
  rw [hll] at HS ⊢
  clear hll
  have LN : Hid (∀ N : Nat, 4 * C.nb.length + 20 * C.dh.length + 12 * C.ks.length + N + 20 * C.hs.length ≤ 262144 → C.Ln) := fun N h => ⟨by omega, by omega, by omega, by omega⟩
  unfold PV.v
  have LN' := LN
  clear LN
  generalize C.nb.length = b at *
  generalize C.dh.length = d at *
  generalize C.ks.length = k at *
  generalize C.hs.length = h at *
  obtain ⟨w0, hw0⟩ : ∃ w0, w0 = w.alloc (.cells #[.int .u8 C.P.typ, .int .u32 C.P.router, .int .u32 C.P.area, .int .u32 C.P.mask, .int .u16 C.P.iv, .int .u8 C.P.opts, .int .u8 C.P.prio, .int .u32 C.P.dead, .int .u32 C.P.dr, .int .u32 C.P.bdr, .slice na b nc, .int .u16 C.P.mtu, .int .u8 C.P.dopts, .int .u8 C.P.dflags, .int .u32 C.P.dseq, .slice da d dc, .slice ka k kc, .slice sa C.ss.length sc, .slice ha h hc] 33) := ⟨_, rfl⟩
  have ta : Touch (fun _ => False) w w0 := by rw [hw0]; exact (Touch.refl _ w).alloc _
  have A0 : Row w0 w.heap.size 33 [.int .u8 C.P.typ, .int .u32 C.P.router, .int .u32 C.P.area, .int .u32 C.P.mask, .int .u16 C.P.iv, .int .u8 C.P.opts, .int .u8 C.P.prio, .int .u32 C.P.dead, .int .u32 C.P.dr, .int .u32 C.P.bdr, .slice na b nc, .int .u16 C.P.mtu, .int .u8 C.P.dopts, .int .u8 C.P.dflags, .int .u32 C.P.dseq, .slice da d dc, .slice ka k kc, .slice sa C.ss.length sc, .slice ha h hc] := by rw [hw0]; exact row_new w 33 #[.int .u8 C.P.typ, .int .u32 C.P.router, .int .u32 C.P.area, .int .u32 C.P.mask, .int .u16 C.P.iv, .int .u8 C.P.opts, .int .u8 C.P.prio, .int .u32 C.P.dead, .int .u32 C.P.dr, .int .u32 C.P.bdr, .slice na b nc, .int .u16 C.P.mtu, .int .u8 C.P.dopts, .int .u8 C.P.dflags, .int .u32 C.P.dseq, .slice da d dc, .slice ka k kc, .slice sa C.ss.length sc, .slice ha h hc]
  have TA : Hid (Touch (fun _ => False) w w0) := ta
  have c10 : w0.cell? ⟨w.heap.size, 10, none⟩ = some (.slice na b nc) := A0.cell 10
  have c15 : w0.cell? ⟨w.heap.size, 15, none⟩ = some (.slice da d dc) := A0.cell 15
  have c16 : w0.cell? ⟨w.heap.size, 16, none⟩ = some (.slice ka k kc) := A0.cell 16
  have c17 : w0.cell? ⟨w.heap.size, 17, none⟩ = some (.slice sa C.ss.length sc) := A0.cell 17
  have c18 : w0.cell? ⟨w.heap.size, 18, none⟩ = some (.slice ha h hc) := A0.cell 18
  have HQ := HS.out w0.drew (ta.drew)
  clear A0 ta HS
  go_enter Tryz.func26, Tryz.ntmps26
  go_upto_region 1 with fail
  rw [← hw0]
  clear hw0
  generalize w.heap.size = g at *
  have q10 := onl_cell (F := fun _ => False) c10 (fun f => f)
  have q15 := onl_cell (F := fun _ => False) c15 (fun f => f)
  have q16 := onl_cell (F := fun _ => False) c16 (fun f => f)
  have q17 := onl_cell (F := fun _ => False) c17 (fun f => f)
  have q18 := onl_cell (F := fun _ => False) c18 (fun f => f)
  have st : Onl (fun _ => False) w0 w0.drew := ⟨(Touch.refl _ _).drew⟩
  go_region_held3 (fun w' => Onl (fun _ => False) w0 w') (with_reducible assumption) (first
    | (go_at_call 85; refine Calls.mono HQ ?_; rintro e w2 ⟨N, rfl, hN, hLt, rfl⟩; have s2 := st))
  go_wp2_with fail
  go_ret
  exact ⟨4 * b + 20 * d + 12 * k + N + 20 * h, congrArg (fun x => Ending.returned (.int .i64 x)) (szw b d k N h z1 z2 z3 hN z5), fun h' => ⟨hLt (by omega), LN'.out N h'⟩, TA.out.trans s2.t⟩

theorem longP (n : Nat) (w : World) : Calls Tryz.prog 27 #[.int .i64 (n : Int)] w fun e w' => e = .returned (.bool (decide (2147483647 < (n : Int)))) ∧ w' = w := by
  go_enter Tryz.func27, Tryz.ntmps27
  go_wp2
  go_ret
  exact ⟨rfl, rfl⟩
end Go.Proofs.YtjgeklipeeooaaaGreatDoor

namespace Go.Proofs.YtjgeklipeeooaaaGreatDoor
open Go.RowKit
set_option linter.unusedVariables false
set_option maxRecDepth 100000

set_option maxHeartbeats 2000000 in
theorem pheavy (C : PkC) (sz : C.Sz) (vn vd vk vs vh : Value) (w : World) (hp : PkAt w C vn vd vk vs vh) :
    Calls Tryz.prog 5 #[C.P.v vn vd vk vs vh] w fun e w' => ∃ b : Bool, e = .returned (.bool b) ∧ (b = false → C.Lt ∧ C.Ln) ∧ Touch (fun _ => False) w w' := by
  obtain ⟨l, hl, hst⟩ := hp.s
  have HS : ∀ w', Touch (fun _ => False) w w' → Calls Tryz.prog 26 #[C.P.v vn vd vk vs vh] w' fun e w'' => ∃ N : Nat, e = .returned (.int .i64 (N : Int)) ∧ (N ≤ 262144 → C.Lt ∧ C.Ln) ∧ Touch (fun _ => False) w' w'' := fun w' t => spacketP C sz vn vd vk vs vh w' (hp.keep t)
  obtain ⟨na, nc, rfl, -⟩ := ValsAt.form hp.n
  obtain ⟨da, dc, rfl, -⟩ := ValsAt.form hp.d
  obtain ⟨ka, kc, rfl, -⟩ := ValsAt.form hp.k
  obtain ⟨sa, sc, rfl, -⟩ := ValsAt.form hst.vals
  obtain ⟨ha, hc, rfl, -⟩ := ValsAt.form hp.h
  have hll : l.length = C.ss.length := by rw [← hl, List.length_map]
  rw [hll] at HS ⊢
  clear hp hst hl hll
  unfold PV.v at HS ⊢
  obtain ⟨w0, hw0⟩ : ∃ w0, w0 = w.alloc (.cells #[.int .u8 C.P.typ, .int .u32 C.P.router, .int .u32 C.P.area, .int .u32 C.P.mask, .int .u16 C.P.iv, .int .u8 C.P.opts, .int .u8 C.P.prio, .int .u32 C.P.dead, .int .u32 C.P.dr, .int .u32 C.P.bdr, .slice na C.nb.length nc, .int .u16 C.P.mtu, .int .u8 C.P.dopts, .int .u8 C.P.dflags, .int .u32 C.P.dseq, .slice da C.dh.length dc, .slice ka C.ks.length kc, .slice sa C.ss.length sc, .slice ha C.hs.length hc] 33) := ⟨_, rfl⟩
  have ta : Touch (fun _ => False) w w0 := by rw [hw0]; exact (Touch.refl _ w).alloc _
  have A0 : Row w0 w.heap.size 33 [.int .u8 C.P.typ, .int .u32 C.P.router, .int .u32 C.P.area, .int .u32 C.P.mask, .int .u16 C.P.iv, .int .u8 C.P.opts, .int .u8 C.P.prio, .int .u32 C.P.dead, .int .u32 C.P.dr, .int .u32 C.P.bdr, .slice na C.nb.length nc, .int .u16 C.P.mtu, .int .u8 C.P.dopts, .int .u8 C.P.dflags, .int .u32 C.P.dseq, .slice da C.dh.length dc, .slice ka C.ks.length kc, .slice sa C.ss.length sc, .slice ha C.hs.length hc] := by rw [hw0]; exact row_new w 33 #[.int .u8 C.P.typ, .int .u32 C.P.router, .int .u32 C.P.area, .int .u32 C.P.mask, .int .u16 C.P.iv, .int .u8 C.P.opts, .int .u8 C.P.prio, .int .u32 C.P.dead, .int .u32 C.P.dr, .int .u32 C.P.bdr, .slice na C.nb.length nc, .int .u16 C.P.mtu, .int .u8 C.P.dopts, .int .u8 C.P.dflags, .int .u32 C.P.dseq, .slice da C.dh.length dc, .slice ka C.ks.length kc, .slice sa C.ss.length sc, .slice ha C.hs.length hc]
  have R0 := A0.range
  have TA : Hid (Touch (fun _ => False) w w0) := ta
  have HQ := HS w0 ta
  clear A0 ta HS sz
  go_enter Tryz.func5, Tryz.ntmps5
  go_upto_region 1 with fail
  rw [← hw0]
  clear hw0
  generalize w.heap.size = g at *
  go_wp2_with (refine wpList_load_mid rfl 33 (.tmp 1) rfl g 0 rfl [.int .u8 C.P.typ, .int .u32 C.P.router, .int .u32 C.P.area, .int .u32 C.P.mask, .int .u16 C.P.iv, .int .u8 C.P.opts, .int .u8 C.P.prio, .int .u32 C.P.dead, .int .u32 C.P.dr, .int .u32 C.P.bdr, .slice na C.nb.length nc, .int .u16 C.P.mtu, .int .u8 C.P.dopts, .int .u8 C.P.dflags, .int .u32 C.P.dseq, .slice da C.dh.length dc, .slice ka C.ks.length kc, .slice sa C.ss.length sc, .slice ha C.hs.length hc] _ R0 Tryz.underlying33 rfl (by kernel_rfl) ?_)
  refine Calls.mono HQ ?_
  rintro e w1 ⟨N, rfl, hN, t1⟩
  have HL := longP N w1
  have T1 : Hid (Touch (fun _ => False) w w1) := TA.out.trans t1
  have HN : Hid (N ≤ 262144 → C.Lt ∧ C.Ln) := hN
  clear HQ R0 hN t1 TA
  by_cases h : N ≤ 262144
  · have h1 : ¬ (2147483647 : Int) < (N : Int) := by omega
    have h2 : ¬ (262144 : Int) < (N : Int) := by omega
    rw [decide_eq_false h1] at HL
    go_wp2_with (go_at_call 27; refine Calls.mono HL ?_; rintro e w2 ⟨rfl, rfl⟩)
    go_ret
    exact ⟨_, rfl, fun _ => HN.out h, T1.out⟩
  · have h2 : (262144 : Int) < (N : Int) := by omega
    by_cases h3 : (2147483647 : Int) < (N : Int)
    · rw [decide_eq_true h3] at HL
      go_wp2_with (go_at_call 27; refine Calls.mono HL ?_; rintro e w2 ⟨rfl, rfl⟩)
      go_ret
      exact ⟨true, rfl, (fun q => by cases q), T1.out⟩
    · rw [decide_eq_false h3] at HL
      go_wp2_with (go_at_call 27; refine Calls.mono HL ?_; rintro e w2 ⟨rfl, rfl⟩)
      go_ret
      exact ⟨true, rfl, (fun q => by cases q), T1.out⟩
set_option maxHeartbeats 2000000 in
theorem pauth (A : AuV) (w : World) : Calls Tryz.prog 9 #[A.v] w fun e w' => e = .returned A.v ∧ Touch (fun _ => False) w w' := by
  unfold AuV.v
  obtain ⟨w0, hw0⟩ : ∃ w0, w0 = (w.alloc (.cells #[.int .u16 A.kind, .int .u8 A.d0, .int .u8 A.d1, .int .u8 A.d2, .int .u8 A.d3, .int .u8 A.d4, .int .u8 A.d5, .int .u8 A.d6, .int .u8 A.d7] 36)).alloc (.cells #[.int .u16 0, .int .u8 0, .int .u8 0, .int .u8 0, .int .u8 0, .int .u8 0, .int .u8 0, .int .u8 0, .int .u8 0] 44) := ⟨_, rfl⟩
  have ta : Touch (fun _ => False) w w0 := by rw [hw0]; exact ((Touch.refl _ w).alloc _).alloc _
  have A0 : Row w0 w.heap.size 36 [.int .u16 A.kind, .int .u8 A.d0, .int .u8 A.d1, .int .u8 A.d2, .int .u8 A.d3, .int .u8 A.d4, .int .u8 A.d5, .int .u8 A.d6, .int .u8 A.d7] := by rw [hw0]; exact (row_new w 36 #[.int .u16 A.kind, .int .u8 A.d0, .int .u8 A.d1, .int .u8 A.d2, .int .u8 A.d3, .int .u8 A.d4, .int .u8 A.d5, .int .u8 A.d6, .int .u8 A.d7]).keep ((Touch.refl _ _).alloc _)
  have B0 : Row w0 (w.heap.size + 1) 44 [.int .u16 0, .int .u8 0, .int .u8 0, .int .u8 0, .int .u8 0, .int .u8 0, .int .u8 0, .int .u8 0, .int .u8 0] := by
    have := row_new (w.alloc (.cells #[.int .u16 A.kind, .int .u8 A.d0, .int .u8 A.d1, .int .u8 A.d2, .int .u8 A.d3, .int .u8 A.d4, .int .u8 A.d5, .int .u8 A.d6, .int .u8 A.d7] 36)) 44 #[.int .u16 0, .int .u8 0, .int .u8 0, .int .u8 0, .int .u8 0, .int .u8 0, .int .u8 0, .int .u8 0, .int .u8 0]
    rw [← hw0] at this
    simpa using this
  have y0 : w0.cell? ⟨w.heap.size, 0, none⟩ = some (.int .u16 A.kind) := A0.cell 0
  have y1 : w0.cell? ⟨w.heap.size, 1, none⟩ = some (.int .u8 A.d0) := A0.cell 1
  have y2 : w0.cell? ⟨w.heap.size, 2, none⟩ = some (.int .u8 A.d1) := A0.cell 2
  have y3 : w0.cell? ⟨w.heap.size, 3, none⟩ = some (.int .u8 A.d2) := A0.cell 3
  have y4 : w0.cell? ⟨w.heap.size, 4, none⟩ = some (.int .u8 A.d3) := A0.cell 4
  have y5 : w0.cell? ⟨w.heap.size, 5, none⟩ = some (.int .u8 A.d4) := A0.cell 5
  have y6 : w0.cell? ⟨w.heap.size, 6, none⟩ = some (.int .u8 A.d5) := A0.cell 6
  have y7 : w0.cell? ⟨w.heap.size, 7, none⟩ = some (.int .u8 A.d6) := A0.cell 7
  have y8 : w0.cell? ⟨w.heap.size, 8, none⟩ = some (.int .u8 A.d7) := A0.cell 8
  clear A0
  go_enter Tryz.func9, Tryz.ntmps9
  go_upto_region 1 with fail
  rw [← hw0]
  clear hw0
  go_wp2_with (refine wpList_store_row rfl 44 (.tmp 2) (.tmp 7) rfl (w.heap.size + 1) #[.int .u16 A.kind, .int .u8 A.d0, .int .u8 A.d1, .int .u8 A.d2, .int .u8 A.d3, .int .u8 A.d4, .int .u8 A.d5, .int .u8 A.d6, .int .u8 A.d7] rfl rfl 44 _ B0 (by kernel_rfl) rfl (by simp [Value.oneCell']) ?_)
  have u3 : Touch (fun k => k = w.heap.size + 1) w0 (w0.setRow (w.heap.size + 1) #[.int .u16 A.kind, .int .u8 A.d0, .int .u8 A.d1, .int .u8 A.d2, .int .u8 A.d3, .int .u8 A.d4, .int .u8 A.d5, .int .u8 A.d6, .int .u8 A.d7]) := Touch.setRow (F := fun k => k = w.heap.size + 1) (Touch.refl _ _) (Or.inl rfl) _
  refine bodyPost_ret (v := .agg #[.int .u16 A.kind, .int .u8 A.d0, .int .u8 A.d1, .int .u8 A.d2, .int .u8 A.d3, .int .u8 A.d4, .int .u8 A.d5, .int .u8 A.d6, .int .u8 A.d7]) ?hr rfl ?_
  case hr => exact results_cell_row rfl _ _ (w.heap.size + 1) 44 #[.int .u16 A.kind, .int .u8 A.d0, .int .u8 A.d1, .int .u8 A.d2, .int .u8 A.d3, .int .u8 A.d4, .int .u8 A.d5, .int .u8 A.d6, .int .u8 A.d7] (0, 0) _ (by rfl) (B0.setRow _) Tryz.underlying44 rfl (by kernel_rfl)
  exact ⟨rfl, ta.trans' u3 (fun i hi e => by omega)⟩
end Go.Proofs.YtjgeklipeeooaaaGreatDoor

namespace Go.Proofs.YtjgeklipeeooaaaGreatDoor
open Go.RowKit
set_option linter.unusedVariables false
set_option maxRecDepth 100000

def PV.base (t r a : Int) : PV := { PV.zero with typ := t, router := r, area := a }
theorem numOf_bd {l : List Int} (hb : ∀ z ∈ l, 0 ≤ z ∧ z < 256) (n : Nat) (h : l.length ≤ n) : 0 ≤ numOf l ∧ numOf l < 256 ^ n := by
  have h1 := numOf_bound l hb
  have h2 : (256 : Int) ^ l.length ≤ 256 ^ n := by
    have := Nat.pow_le_pow_right (show 0 < 256 by omega) h
    exact_mod_cast this
  omega
theorem mem_take_drop {c : List Int} {p n : Nat} {z : Int} (h : z ∈ (c.drop p).take n) : z ∈ c := List.mem_of_mem_drop (List.mem_of_mem_take h)
theorem nb2 {c : List Int} (hb : ∀ z ∈ c, 0 ≤ z ∧ z < 256) (p : Nat) : 0 ≤ numOf ((c.drop p).take 2) ∧ numOf ((c.drop p).take 2) < 65536 := by
  have := numOf_bd (l := (c.drop p).take 2) (fun z hz => hb z (mem_take_drop hz)) 2 (List.length_take_le _ _)
  omega
theorem PV.base_ok {t r a : Int} (ht : 0 ≤ t ∧ t < 256) (hr : 0 ≤ r ∧ r < 4294967296) (ha : 0 ≤ a ∧ a < 4294967296) : (PV.base t r a).Ok := by
  constructor <;> (first | exact ht | exact hr | exact ha | (simp [PV.base, PV.zero]))
end Go.Proofs.YtjgeklipeeooaaaGreatDoor

namespace Go.Proofs.YtjgeklipeeooaaaGreatDoor
open Go.RowKit
set_option linter.unusedVariables false
set_option maxRecDepth 100000

def C5 : PkC := ⟨PV.base 5 1 0, [], [], [], [], []⟩
def C6 : PkC := ⟨PV.base 6 0 0, [], [], [], [], []⟩
theorem base_okC (P : PV) (hP : P.Ok) : (⟨P, [], [], [], [], []⟩ : PkC).Ok := ⟨hP, (fun x h => by cases h), (fun x h => by cases h), (fun x h => by cases h), (fun x h => by cases h), (fun x h => by cases h), (fun x h => by cases h)⟩
theorem C5_ok : C5.Ok := base_okC _ (PV.base_ok (by omega) (by omega) (by omega))
theorem C6_ok : C6.Ok := base_okC _ (PV.base_ok (by omega) (by omega) (by omega))
theorem A0_ok : AuV.zero.Ok := by constructor <;> simp [AuV.zero]
theorem C5_lt : C5.Lt := ⟨by simp [C5], fun s h => by cases h⟩
theorem C6_lt : C6.Lt := ⟨by simp [C6], fun s h => by cases h⟩
theorem nil_at (w : World) (P : PV) : PkAt w ⟨P, [], [], [], [], []⟩ (.slice none 0 0) (.slice none 0 0) (.slice none 0 0) (.slice none 0 0) (.slice none 0 0) := ⟨⟨rfl, Or.inl ⟨rfl, rfl⟩⟩, ⟨rfl, Or.inl ⟨rfl, rfl⟩⟩, ⟨rfl, Or.inl ⟨rfl, rfl⟩⟩, ⟨[], rfl, ⟨⟨rfl, Or.inl ⟨rfl, rfl⟩⟩, fun x h => by cases h⟩⟩, ⟨rfl, Or.inl ⟨rfl, rfl⟩⟩⟩
theorem C5_enc : PEnc C5 AuV.zero := ⟨by simp [C5, PV.base], ⟨fun _ => by decide, fun _ => by decide, fun _ => rfl, fun _ => rfl, fun _ => rfl⟩, rfl, by simp [AuV.zero], by decide⟩
theorem C5_bytes : pencB C5 AuV.zero = [2, 5, 0, 24, 0, 0, 0, 1, 0, 0, 0, 0, 253, 225, 0, 0, 0, 0, 0, 0, 0, 0, 0, 0] := by
  unfold pencB
  rw [if_pos C5_enc.zero, sealed_form]
  decide
theorem C6_e : pencE C6 AuV.zero = 21 := pencE_21 (by simp [C6, PV.base])
theorem L5_round : PRound C5 AuV.zero [2, 5, 0, 24, 0, 0, 0, 1, 0, 0, 0, 0, 253, 225, 0, 0, 0, 0, 0, 0, 0, 0, 0, 0] := by have := pround C5_ok A0_ok C5_enc.zero; rwa [C5_bytes] at this

set_option maxHeartbeats 4000000 in
theorem plives (w : World) : Calls Tryz.prog 6 #[] w fun e w' => e = .returned (.bool true) ∧ Touch (fun _ => False) w w' := by
  have HE1 : ∀ w, Calls Tryz.prog 8 #[.agg #[.int .u8 5, .int .u32 1, .int .u32 0, .int .u32 0, .int .u16 0, .int .u8 0, .int .u8 0, .int .u32 0, .int .u32 0, .int .u32 0, .slice none 0 0, .int .u16 0, .int .u8 0, .int .u8 0, .int .u32 0, .slice none 0 0, .slice none 0 0, .slice none 0 0, .slice none 0 0], .agg #[.int .u16 0, .int .u8 0, .int .u8 0, .int .u8 0, .int .u8 0, .int .u8 0, .int .u8 0, .int .u8 0, .int .u8 0]] w fun e w' => ∃ v, e = .returned (.tuple #[v, .int .i64 0]) ∧ Buf w w' v [2, 5, 0, 24, 0, 0, 0, 1, 0, 0, 0, 0, 253, 225, 0, 0, 0, 0, 0, 0, 0, 0, 0, 0] := fun w => by
    have := penc_any C5 C5_ok C5_lt AuV.zero A0_ok _ _ _ _ _ w (nil_at w _)
    rw [C5_enc.zero, C5_bytes] at this
    exact this
  have HE2 : ∀ w, Calls Tryz.prog 8 #[.agg #[.int .u8 6, .int .u32 0, .int .u32 0, .int .u32 0, .int .u16 0, .int .u8 0, .int .u8 0, .int .u32 0, .int .u32 0, .int .u32 0, .slice none 0 0, .int .u16 0, .int .u8 0, .int .u8 0, .int .u32 0, .slice none 0 0, .slice none 0 0, .slice none 0 0, .slice none 0 0], .agg #[.int .u16 0, .int .u8 0, .int .u8 0, .int .u8 0, .int .u8 0, .int .u8 0, .int .u8 0, .int .u8 0, .int .u8 0]] w fun e w' => ∃ v, e = .returned (.tuple #[v, .int .i64 21]) ∧ Touch (fun _ => False) w w' := fun w => by
    have := penc_any C6 C6_ok C6_lt AuV.zero A0_ok _ _ _ _ _ w (nil_at w _)
    rw [C6_e] at this
    exact this.mono (fun e w' ⟨v, h1, h2⟩ => ⟨v, h1, h2.t⟩)
  have HDc : ∀ v w, ArgAt w v [2, 5, 0, 24, 0, 0, 0, 1, 0, 0, 0, 0, 253, 225, 0, 0, 0, 0, 0, 0, 0, 0, 0, 0] → Calls Tryz.prog 17 #[v] w fun e w' => ∃ na nc da dc ka kc sa sc ha hc, e = .returned (.tuple #[.agg #[.int .u8 5, .int .u32 1, .int .u32 0, .int .u32 0, .int .u16 0, .int .u8 0, .int .u8 0, .int .u32 0, .int .u32 0, .int .u32 0, .slice na 0 nc, .int .u16 0, .int .u8 0, .int .u8 0, .int .u32 0, .slice da 0 dc, .slice ka 0 kc, .slice sa 0 sc, .slice ha 0 hc], .agg #[.int .u16 0, .int .u8 0, .int .u8 0, .int .u8 0, .int .u8 0, .int .u8 0, .int .u8 0, .int .u8 0, .int .u8 0], .int .i64 0]) ∧ Touch (fun _ => False) w w' := fun v w hv => by
    have := pdec_any v [2, 5, 0, 24, 0, 0, 0, 1, 0, 0, 0, 0, 253, 225, 0, 0, 0, 0, 0, 0, 0, 0, 0, 0] w hv L5_round.bt (by simp)
    rw [L5_round.c, L5_round.a, L5_round.e] at this
    refine this.mono ?_
    rintro e w' ⟨vn, vd, vk, vs, vh, rfl, po, t⟩
    obtain ⟨na, nc, rfl⟩ := own_form po.n
    obtain ⟨da, dc, rfl⟩ := own_form po.d
    obtain ⟨ka, kc, rfl⟩ := own_form po.k
    obtain ⟨sa, sc, rfl⟩ : ∃ a c, vs = .slice a 0 c := by
      obtain ⟨l, hl, hs, _⟩ := po.s
      obtain ⟨a, c, e⟩ := own_form hs
      have : l.length = 0 := by rw [← List.length_map (f := SE.p), hl]; rfl
      exact ⟨a, c, by rw [e, this]⟩
    obtain ⟨ha, hc, rfl⟩ := own_form po.h
    exact ⟨na, nc, da, dc, ka, kc, sa, sc, ha, hc, rfl, t⟩
  have HRi : ∀ v w, ArgAt w v [2, 5, 0, 24, 0, 0, 0, 1, 0, 0, 0, 0, 253, 225, 0, 0, 0, 0, 0, 0, 0, 0, 0, 0] → Calls Tryz.prog 22 #[v] w fun e w' => e = .returned (.bool true) ∧ Touch (fun _ => False) w w' := fun v w hv => by
    have := pright_any v [2, 5, 0, 24, 0, 0, 0, 1, 0, 0, 0, 0, 253, 225, 0, 0, 0, 0, 0, 0, 0, 0, 0, 0] w hv L5_round.bt (by simp)
    rw [L5_round.right (by simp [AuV.zero])] at this
    exact this
  have heq : ∀ w, Sem.run Tryz.prog (Op.equalIn 9999 34 (.agg #[.int .u8 0, .int .u8 0, .int .u8 0, .int .u8 0, .int .u8 0, .int .u8 0, .int .u8 0, .int .u8 0]) (.agg #[.int .u8 0, .int .u8 0, .int .u8 0, .int .u8 0, .int .u8 0, .int .u8 0, .int .u8 0, .int .u8 0])) w = .ok true w := fun w => eq8 [0, 0, 0, 0, 0, 0, 0, 0] (by simp) rfl 9997 w
  go_enter Tryz.func6, Tryz.ntmps6
  go_wp2_with fail
  refine Calls.mono (HE1 w) ?_
  rintro e w1 ⟨v1, rfl, b1⟩
  obtain ⟨va, vc, rfl⟩ := b1.form
  have B1 : Hid (Buf w w1 (.slice va 24 vc) [2, 5, 0, 24, 0, 0, 0, 1, 0, 0, 0, 0, 253, 225, 0, 0, 0, 0, 0, 0, 0, 0, 0, 0]) := b1
  have H1 := HDc _ w1 b1.arg
  clear b1 HE1 HDc
  go_wp2_with fail
  refine Calls.mono H1 ?_
  rintro e w2 ⟨na, nc, da, dc, ka, kc, sa, sc, ha, hc, rfl, t2⟩
  clear H1
  obtain ⟨w3, hw3⟩ : ∃ w3, w3 = (((w2.alloc (.cells #[.int .u8 0, .int .u32 0, .int .u32 0, .int .u32 0, .int .u16 0, .int .u8 0, .int .u8 0, .int .u32 0, .int .u32 0, .int .u32 0, .slice none 0 0, .int .u16 0, .int .u8 0, .int .u8 0, .int .u32 0, .slice none 0 0, .slice none 0 0, .slice none 0 0, .slice none 0 0] 33)).alloc (.cells #[.int .u16 0, .int .u8 0, .int .u8 0, .int .u8 0, .int .u8 0, .int .u8 0, .int .u8 0, .int .u8 0, .int .u8 0] 44)).setRow w2.heap.size #[.int .u8 5, .int .u32 1, .int .u32 0, .int .u32 0, .int .u16 0, .int .u8 0, .int .u8 0, .int .u32 0, .int .u32 0, .int .u32 0, .slice na 0 nc, .int .u16 0, .int .u8 0, .int .u8 0, .int .u32 0, .slice da 0 dc, .slice ka 0 kc, .slice sa 0 sc, .slice ha 0 hc]).setRow (w2.heap.size + 1) #[.int .u16 0, .int .u8 0, .int .u8 0, .int .u8 0, .int .u8 0, .int .u8 0, .int .u8 0, .int .u8 0, .int .u8 0] := ⟨_, rfl⟩
  have ra : Row ((w2.alloc (.cells #[.int .u8 0, .int .u32 0, .int .u32 0, .int .u32 0, .int .u16 0, .int .u8 0, .int .u8 0, .int .u32 0, .int .u32 0, .int .u32 0, .slice none 0 0, .int .u16 0, .int .u8 0, .int .u8 0, .int .u32 0, .slice none 0 0, .slice none 0 0, .slice none 0 0, .slice none 0 0] 33)).alloc (.cells #[.int .u16 0, .int .u8 0, .int .u8 0, .int .u8 0, .int .u8 0, .int .u8 0, .int .u8 0, .int .u8 0, .int .u8 0] 44)) w2.heap.size 33 [.int .u8 0, .int .u32 0, .int .u32 0, .int .u32 0, .int .u16 0, .int .u8 0, .int .u8 0, .int .u32 0, .int .u32 0, .int .u32 0, .slice none 0 0, .int .u16 0, .int .u8 0, .int .u8 0, .int .u32 0, .slice none 0 0, .slice none 0 0, .slice none 0 0, .slice none 0 0] := (row_new w2 33 #[.int .u8 0, .int .u32 0, .int .u32 0, .int .u32 0, .int .u16 0, .int .u8 0, .int .u8 0, .int .u32 0, .int .u32 0, .int .u32 0, .slice none 0 0, .int .u16 0, .int .u8 0, .int .u8 0, .int .u32 0, .slice none 0 0, .slice none 0 0, .slice none 0 0, .slice none 0 0]).keep ((Touch.refl _ _).alloc _)
  have rb : Row ((w2.alloc (.cells #[.int .u8 0, .int .u32 0, .int .u32 0, .int .u32 0, .int .u16 0, .int .u8 0, .int .u8 0, .int .u32 0, .int .u32 0, .int .u32 0, .slice none 0 0, .int .u16 0, .int .u8 0, .int .u8 0, .int .u32 0, .slice none 0 0, .slice none 0 0, .slice none 0 0, .slice none 0 0] 33)).alloc (.cells #[.int .u16 0, .int .u8 0, .int .u8 0, .int .u8 0, .int .u8 0, .int .u8 0, .int .u8 0, .int .u8 0, .int .u8 0] 44)) (w2.heap.size + 1) 44 [.int .u16 0, .int .u8 0, .int .u8 0, .int .u8 0, .int .u8 0, .int .u8 0, .int .u8 0, .int .u8 0, .int .u8 0] := by
    have := row_new (w2.alloc (.cells #[.int .u8 0, .int .u32 0, .int .u32 0, .int .u32 0, .int .u16 0, .int .u8 0, .int .u8 0, .int .u32 0, .int .u32 0, .int .u32 0, .slice none 0 0, .int .u16 0, .int .u8 0, .int .u8 0, .int .u32 0, .slice none 0 0, .slice none 0 0, .slice none 0 0, .slice none 0 0] 33)) 44 #[.int .u16 0, .int .u8 0, .int .u8 0, .int .u8 0, .int .u8 0, .int .u8 0, .int .u8 0, .int .u8 0, .int .u8 0]
    simpa using this
  have rb2 : Row (((w2.alloc (.cells #[.int .u8 0, .int .u32 0, .int .u32 0, .int .u32 0, .int .u16 0, .int .u8 0, .int .u8 0, .int .u32 0, .int .u32 0, .int .u32 0, .slice none 0 0, .int .u16 0, .int .u8 0, .int .u8 0, .int .u32 0, .slice none 0 0, .slice none 0 0, .slice none 0 0, .slice none 0 0] 33)).alloc (.cells #[.int .u16 0, .int .u8 0, .int .u8 0, .int .u8 0, .int .u8 0, .int .u8 0, .int .u8 0, .int .u8 0, .int .u8 0] 44)).setRow w2.heap.size #[.int .u8 5, .int .u32 1, .int .u32 0, .int .u32 0, .int .u16 0, .int .u8 0, .int .u8 0, .int .u32 0, .int .u32 0, .int .u32 0, .slice na 0 nc, .int .u16 0, .int .u8 0, .int .u8 0, .int .u32 0, .slice da 0 dc, .slice ka 0 kc, .slice sa 0 sc, .slice ha 0 hc]) (w2.heap.size + 1) 44 [.int .u16 0, .int .u8 0, .int .u8 0, .int .u8 0, .int .u8 0, .int .u8 0, .int .u8 0, .int .u8 0, .int .u8 0] := rb.otherRow (by omega) _
  have t3 : Touch (fun _ => False) w2 w3 := by rw [hw3]; exact ((((Touch.refl _ _).alloc _).alloc _).setRow (Or.inr (by omega)) _).setRow (Or.inr (by omega)) _
  have G6 : Row w3 w2.heap.size 33 [.int .u8 5, .int .u32 1, .int .u32 0, .int .u32 0, .int .u16 0, .int .u8 0, .int .u8 0, .int .u32 0, .int .u32 0, .int .u32 0, .slice na 0 nc, .int .u16 0, .int .u8 0, .int .u8 0, .int .u32 0, .slice da 0 dc, .slice ka 0 kc, .slice sa 0 sc, .slice ha 0 hc] := by rw [hw3]; exact (ra.setRow _).otherRow (by omega) _
  have G7 : Row w3 (w2.heap.size + 1) 44 [.int .u16 0, .int .u8 0, .int .u8 0, .int .u8 0, .int .u8 0, .int .u8 0, .int .u8 0, .int .u8 0, .int .u8 0] := by rw [hw3]; exact rb2.setRow _
  have B3 : Hid (Buf w w3 (.slice va 24 vc) [2, 5, 0, 24, 0, 0, 0, 1, 0, 0, 0, 0, 253, 225, 0, 0, 0, 0, 0, 0, 0, 0, 0, 0]) := (B1.out.keep t2).keep t3
  clear t2 t3 B1
  go_upto_region 3 with (first | refine wpList_store_row rfl 33 (.tmp 3) (.tmp 17) rfl w2.heap.size #[.int .u8 5, .int .u32 1, .int .u32 0, .int .u32 0, .int .u16 0, .int .u8 0, .int .u8 0, .int .u32 0, .int .u32 0, .int .u32 0, .slice na 0 nc, .int .u16 0, .int .u8 0, .int .u8 0, .int .u32 0, .slice da 0 dc, .slice ka 0 kc, .slice sa 0 sc, .slice ha 0 hc] rfl rfl 33 _ ra (by kernel_rfl) rfl (by simp [Value.oneCell']) ?_ | refine wpList_store_row rfl 44 (.tmp 4) (.tmp 18) rfl (w2.heap.size + 1) #[.int .u16 0, .int .u8 0, .int .u8 0, .int .u8 0, .int .u8 0, .int .u8 0, .int .u8 0, .int .u8 0, .int .u8 0] rfl rfl 44 _ rb2 (by kernel_rfl) rfl (by simp [Value.oneCell']) ?_)
  rw [← hw3]
  clear hw3 ra rb rb2
  generalize w2.heap.size + 1 = g7 at *
  generalize w2.heap.size = g6 at *
  go_wp2_with fail
  refine Calls.mono (HE2 w3) ?_
  rintro e w4 ⟨v4, rfl, t4⟩
  have B4 := B3.out.keep t4
  have G64 := G6.keep t4
  have G74 := G7.keep t4
  have d1 : w4.cell? ⟨g6, 1, none⟩ = some (.int .u32 1) := G64.cell 1
  have y0 : w4.cell? ⟨g7, 0, none⟩ = some (.int .u16 0) := G74.cell 0
  have y1 : w4.cell? ⟨g7, 1, none⟩ = some (.int .u8 0) := G74.cell 1
  have y2 : w4.cell? ⟨g7, 2, none⟩ = some (.int .u8 0) := G74.cell 2
  have y3 : w4.cell? ⟨g7, 3, none⟩ = some (.int .u8 0) := G74.cell 3
  have y4 : w4.cell? ⟨g7, 4, none⟩ = some (.int .u8 0) := G74.cell 4
  have y5 : w4.cell? ⟨g7, 5, none⟩ = some (.int .u8 0) := G74.cell 5
  have y6 : w4.cell? ⟨g7, 6, none⟩ = some (.int .u8 0) := G74.cell 6
  have y7 : w4.cell? ⟨g7, 7, none⟩ = some (.int .u8 0) := G74.cell 7
  have y8 : w4.cell? ⟨g7, 8, none⟩ = some (.int .u8 0) := G74.cell 8
  have H4 := HRi _ w4 B4.arg
  have T4 : Hid (Touch (fun _ => False) w w4) := B4.t
  obtain ⟨gv, ov, ev⟩ := rowAt_some B4.row (by omega)
  subst ev
  have k12 : w4.cell? ⟨gv, ov + 12, none⟩ = some (.int .u8 253) := rowAt_cell B4.row 12 (by simp)
  have k13 : w4.cell? ⟨gv, ov + 13, none⟩ = some (.int .u8 225) := rowAt_cell B4.row 13 (by simp)
  clear HE2 HRi B3 B4 G6 G7 G64 G74 t4
  go_wp2_with (go_at_call 22; refine Calls.mono H4 ?_; rintro e w5 ⟨rfl, t5⟩)
  go_ret
  exact ⟨rfl, T4.out.trans t5⟩
end Go.Proofs.YtjgeklipeeooaaaGreatDoor
