/- How large a packet is; which are too heavy. -/
import Derived.Test.YtjjgbcjgmjggnaaGreatPkEq
import Derived.Deep.QuietTactic
import Derived.BigQuiet
import Derived.Test.YtjjgbcjgmjggnaaGreatDigRow
import Derived.Test.YtjjgbcjgmjggnaaGreatAuTwo
import Derived.Test.YtjjgbcjgmjggnaaGreatAuLives
import Derived.Test.YtjjgbcjgmjggnaaGreatAuGiv
import Derived.Test.YtjjgbcjgmjggnaaGreatPkCpP
import Derived.Test.YtjjgbcjgmjggnaaGreatPkRows
import Derived.Deep.DeepCutAuto
import Derived.Deep.RegionHeld3
namespace Go.Proofs.YtjjgbcjgmjggnaaGreat
open Go.RowKit
set_option linter.unusedVariables false
set_option maxRecDepth 100000

structure PkC.Sz (C : PkC) : Prop where
  n : C.nb.length ≤ 140737488355328
  d : C.dh.length ≤ 140737488355328
  k : C.ks.length ≤ 140737488355328
  s : C.ss.length ≤ 140737488355328
  b : ∀ s ∈ C.ss, s.2.length ≤ 140737488355328
  h : C.hs.length ≤ 140737488355328
structure SzR (l : List SE) (gg : Nat) (s3 s4 : Value) (w wr : World) : Prop where
  out : ∃ k N : Nat, k ≤ l.length ∧ gg = l.length - k ∧ s3 = .int .i64 (N : Int) ∧ s4 = .int .i64 (k : Int) ∧ N ≤ 3000000000000000 ∧ 20 * l.length ≤ N ∧ (∀ i x, i < k → l[i]? = some x → x.rs.length ≤ N) ∧ wr = w
set_option maxHeartbeats 2000000 in
theorem sstatesP (v : Value) (l : List SE) (w : World) (hv : StatesAt w v l) (hs : l.length ≤ 140737488355328) (hb : ∀ x ∈ l, x.rs.length ≤ 140737488355328) :
    Calls Tryz.prog 19 #[v] w fun e w' => ∃ N : Nat, e = .returned (.int .i64 (N : Int)) ∧ N ≤ 3000000000000000 ∧ (N ≤ 262144 → 20 * l.length ≤ N ∧ ∀ x ∈ l, x.rs.length ≤ N) ∧ w' = w := by
  obtain ⟨va, vc, rfl, -⟩ := ValsAt.form hv.vals
  have HV : Hid (StatesAt w (.slice va l.length vc) l) := hv
  have HB : Hid (∀ x ∈ l, x.rs.length ≤ 140737488355328) := hb
  have h20 : wrap64 (20 * (l.length : Int)) = ((20 * l.length : Nat) : Int) := by unfold wrap64; omega
  have REL : Hid (SzR l l.length (.int .i64 ((20 * l.length : Nat) : Int)) (.int .i64 0) w w) := ⟨0, 20 * l.length, by omega, by omega, rfl, rfl, by omega, by omega, by omega, rfl⟩
  clear hv hb
  go_enter Tryz.func19, Tryz.ntmps19
  go_wp2_with fail
  go_loopg [3, 4] l.length (fun gg s3 s4 wr => SzR l gg s3 s4 w wr)
  case atStart => exact REL.out
  case round =>
    obtain ⟨k, N, hk, hgg, rfl, rfl, hN, hlo, hall, rfl⟩ := hrel.out
    have HA : Hid (∀ i x, i < k → l[i]? = some x → x.rs.length ≤ N) := hall
    have HL : Hid (20 * l.length ≤ N) := hlo
    clear REL hrel h20 hall hlo
    by_cases hlt : k < l.length
    · have hlt' : (k : Int) < (l.length : Int) := by omega
      by_cases hn : N ≤ 2147483647
      · have hn' : (N : Int) ≤ 2147483647 := by omega
        have hk00 : (0 : Int) ≤ (k : Int) := by omega
        obtain ⟨x, hx⟩ : ∃ x, l[k]? = some x := ⟨l[k], List.getElem?_eq_getElem _⟩
        obtain ⟨ox, g, o, c, eg, hc⟩ := StatesAt.one HV.out hx
        obtain ⟨xa, xc, ex, -⟩ := ox.arg.form
        simp only [Value.slice.injEq] at eg
        obtain ⟨rfl, -, rfl⟩ := eg
        have xl := HB.out x (List.mem_of_getElem? hx)
        have x8 : wr.cell? ⟨g, o + k * 9 + 8, none⟩ = some (.slice xa x.rs.length xc) := by rw [← ex]; rw [Nat.add_assoc]; exact hc 8 _ rfl
        have HN : Hid (SzR l (l.length - (k + 1)) (.int .i64 ((N + x.rs.length : Nat) : Int)) (.int .i64 ((k + 1 : Nat) : Int)) wr wr) := by
          refine ⟨k + 1, N + x.rs.length, by omega, rfl, rfl, rfl, by omega, by have := HL.out; omega, fun i y hi hy => ?_, rfl⟩
          rcases Nat.lt_or_ge i k with h | h
          · have := HA.out i y h hy; omega
          · obtain rfl : i = k := by omega
            rw [hx] at hy
            obtain rfl := Option.some.inj hy
            omega
        have hkw : wrap64 ((k : Int) + 1) = ((k + 1 : Nat) : Int) := by unfold wrap64; omega
        clear ox hc ex hx HV HB HA HL
        generalize x.rs.length = L at *
        have hnw : wrap64 ((N : Int) + (L : Int)) = ((N + L : Nat) : Int) := by unfold wrap64; omega
        go_wp2_with fail
        go_roundg (l.length - (k + 1))
        case measure => omega
        case rel => exact HN.out
      · have hn' : ¬ (N : Int) ≤ 2147483647 := by omega
        go_wp2_with fail
        go_ret
        exact ⟨N, rfl, hN, fun h => by omega, rfl⟩
    · obtain rfl : k = l.length := by omega
      have hlt' : ¬ (l.length : Int) < (l.length : Int) := by omega
      go_wp2_with fail
      go_ret
      exact ⟨N, rfl, hN, fun h => ⟨HL.out, fun x hx => by obtain ⟨i, hi, e⟩ := List.mem_iff_getElem.mp hx; exact HA.out i x hi (by rw [← e]; exact List.getElem?_eq_getElem hi)⟩, rfl⟩
theorem szw (b d k N h : Nat) (z1 : b ≤ 140737488355328) (z2 : d ≤ 140737488355328) (z3 : k ≤ 140737488355328) (z4 : N ≤ 3000000000000000) (z5 : h ≤ 140737488355328) :
    IntKind.i64.wrap (IntKind.i64.wrap (IntKind.i64.wrap (IntKind.i64.wrap (IntKind.i64.wrap (4 * (b : Int)) + IntKind.i64.wrap (20 * (d : Int))) + IntKind.i64.wrap (12 * (k : Int))) + (N : Int)) + IntKind.i64.wrap (20 * (h : Int))) = ((4 * b + 20 * d + 12 * k + N + 20 * h : Nat) : Int) := by
  have m1 : IntKind.i64.wrap (4 * (b : Int)) = 4 * (b : Int) := IntWalk.i64_in _ (by omega)
  have m2 : IntKind.i64.wrap (20 * (d : Int)) = 20 * (d : Int) := IntWalk.i64_in _ (by omega)
  have m3 : IntKind.i64.wrap (12 * (k : Int)) = 12 * (k : Int) := IntWalk.i64_in _ (by omega)
  have m4 : IntKind.i64.wrap (20 * (h : Int)) = 20 * (h : Int) := IntWalk.i64_in _ (by omega)
  rw [m1, m2, m3, m4]
  have a1 : IntKind.i64.wrap (4 * (b : Int) + 20 * (d : Int)) = 4 * (b : Int) + 20 * (d : Int) := IntWalk.i64_in _ (by omega)
  rw [a1]
  have a2 : IntKind.i64.wrap (4 * (b : Int) + 20 * (d : Int) + 12 * (k : Int)) = 4 * (b : Int) + 20 * (d : Int) + 12 * (k : Int) := IntWalk.i64_in _ (by omega)
  rw [a2]
  have a3 : IntKind.i64.wrap (4 * (b : Int) + 20 * (d : Int) + 12 * (k : Int) + (N : Int)) = 4 * (b : Int) + 20 * (d : Int) + 12 * (k : Int) + (N : Int) := IntWalk.i64_in _ (by omega)
  rw [a3, IntWalk.i64_in _ (by omega)]
  omega
set_option maxHeartbeats 2000000 in
theorem spacketP (C : PkC) (sz : C.Sz) (vn vd vk vs vh : Value) (w : World) (hp : PkAt w C vn vd vk vs vh) :
    Calls Tryz.prog 6 #[C.P.v vn vd vk vs vh] w fun e w' => ∃ N : Nat, e = .returned (.int .i64 (N : Int)) ∧ (N ≤ 262144 → C.Lt ∧ C.Ln) ∧ Touch (fun _ => False) w w' := by
  obtain ⟨l, hl, hst⟩ := hp.s
  obtain ⟨na, nc, rfl, -⟩ := ValsAt.form hp.n
  obtain ⟨da, dc, rfl, -⟩ := ValsAt.form hp.d
  obtain ⟨ka, kc, rfl, -⟩ := ValsAt.form hp.k
  obtain ⟨sa, sc, rfl, -⟩ := ValsAt.form hst.vals
  obtain ⟨ha, hc, rfl, -⟩ := ValsAt.form hp.h
  have hll : l.length = C.ss.length := by rw [← hl, List.length_map]
  have HS : Hid (∀ w', Touch (fun _ => False) w w' → Calls Tryz.prog 19 #[.slice sa l.length sc] w' fun e w'' => ∃ N : Nat, e = .returned (.int .i64 (N : Int)) ∧ N ≤ 3000000000000000 ∧ (N ≤ 262144 → C.Lt) ∧ w'' = w') := fun w' t => by
    refine (sstatesP _ l w' (hst.keep t) (by rw [hll]; exact sz.s) (fun x hx => sz.b x.p (by rw [← hl]; exact List.mem_map_of_mem hx))).mono ?_
    rintro e w'' ⟨N, rfl, h1, h2, h3⟩
    refine ⟨N, rfl, h1, fun h => ?_, h3⟩
    obtain ⟨q1, q2⟩ := h2 h
    refine ⟨by omega, fun s hs => ?_⟩
    rw [← hl] at hs
    obtain ⟨x, hx, rfl⟩ := List.mem_map.mp hs
    have := q2 x hx
    show x.rs.length ≤ _
    omega
  obtain ⟨z1, z2, z3, z4, -, z5⟩ := sz
  clear hp hst hl
  rw [hll] at HS ⊢
  clear hll
  have LN : Hid (∀ N : Nat, 4 * C.nb.length + 20 * C.dh.length + 12 * C.ks.length + N + 20 * C.hs.length ≤ 262144 → C.Ln) := fun N h => ⟨by omega, by omega, by omega, by omega⟩
  unfold PV.v
  have LN' := LN
  clear LN
  generalize C.nb.length = b at *
  generalize C.dh.length = d at *
  generalize C.ks.length = k at *
  generalize C.hs.length = h at *
  obtain ⟨w0, hw0⟩ : ∃ w0, w0 = w.alloc (.cells #[.int .u8 C.P.typ, .int .u32 C.P.router, .int .u32 C.P.area, .int .u32 C.P.mask, .int .u16 C.P.iv, .int .u8 C.P.opts, .int .u8 C.P.prio, .int .u32 C.P.dead, .int .u32 C.P.dr, .int .u32 C.P.bdr, .slice na b nc, .int .u16 C.P.mtu, .int .u8 C.P.dopts, .int .u8 C.P.dflags, .int .u32 C.P.dseq, .slice da d dc, .slice ka k kc, .slice sa C.ss.length sc, .slice ha h hc] 33) := ⟨_, rfl⟩
  have ta : Touch (fun _ => False) w w0 := by rw [hw0]; exact (Touch.refl _ w).alloc _
  have A0 : Row w0 w.heap.size 33 [.int .u8 C.P.typ, .int .u32 C.P.router, .int .u32 C.P.area, .int .u32 C.P.mask, .int .u16 C.P.iv, .int .u8 C.P.opts, .int .u8 C.P.prio, .int .u32 C.P.dead, .int .u32 C.P.dr, .int .u32 C.P.bdr, .slice na b nc, .int .u16 C.P.mtu, .int .u8 C.P.dopts, .int .u8 C.P.dflags, .int .u32 C.P.dseq, .slice da d dc, .slice ka k kc, .slice sa C.ss.length sc, .slice ha h hc] := by rw [hw0]; exact row_new w 33 #[.int .u8 C.P.typ, .int .u32 C.P.router, .int .u32 C.P.area, .int .u32 C.P.mask, .int .u16 C.P.iv, .int .u8 C.P.opts, .int .u8 C.P.prio, .int .u32 C.P.dead, .int .u32 C.P.dr, .int .u32 C.P.bdr, .slice na b nc, .int .u16 C.P.mtu, .int .u8 C.P.dopts, .int .u8 C.P.dflags, .int .u32 C.P.dseq, .slice da d dc, .slice ka k kc, .slice sa C.ss.length sc, .slice ha h hc]
  have TA : Hid (Touch (fun _ => False) w w0) := ta
  have c10 : w0.cell? ⟨w.heap.size, 10, none⟩ = some (.slice na b nc) := A0.cell 10
  have c15 : w0.cell? ⟨w.heap.size, 15, none⟩ = some (.slice da d dc) := A0.cell 15
  have c16 : w0.cell? ⟨w.heap.size, 16, none⟩ = some (.slice ka k kc) := A0.cell 16
  have c17 : w0.cell? ⟨w.heap.size, 17, none⟩ = some (.slice sa C.ss.length sc) := A0.cell 17
  have c18 : w0.cell? ⟨w.heap.size, 18, none⟩ = some (.slice ha h hc) := A0.cell 18
  have HQ := HS.out w0.drew (ta.drew)
  clear A0 ta HS
  go_enter Tryz.func6, Tryz.ntmps6
  go_upto_region 1 with fail
  rw [← hw0]
  clear hw0
  generalize w.heap.size = g at *
  have q10 := onl_cell (F := fun _ => False) c10 (fun f => f)
  have q15 := onl_cell (F := fun _ => False) c15 (fun f => f)
  have q16 := onl_cell (F := fun _ => False) c16 (fun f => f)
  have q17 := onl_cell (F := fun _ => False) c17 (fun f => f)
  have q18 := onl_cell (F := fun _ => False) c18 (fun f => f)
  have st : Onl (fun _ => False) w0 w0.drew := ⟨(Touch.refl _ _).drew⟩
  go_region_held3 (fun w' => Onl (fun _ => False) w0 w') (with_reducible assumption) (first
    | (go_at_call 19; refine Calls.mono HQ ?_; rintro e w2 ⟨N, rfl, hN, hLt, rfl⟩; have s2 := st))
  go_wp2_with fail
  go_ret
  exact ⟨4 * b + 20 * d + 12 * k + N + 20 * h, congrArg (fun x => Ending.returned (.int .i64 x)) (szw b d k N h z1 z2 z3 hN z5), fun h' => ⟨hLt (by omega), LN'.out N h'⟩, TA.out.trans s2.t⟩

end Go.Proofs.YtjjgbcjgmjggnaaGreat

namespace Go.Proofs.YtjjgbcjgmjggnaaGreat
open Go.RowKit
set_option linter.unusedVariables false
set_option maxRecDepth 100000

/-- A load of a great struct whose guard is open. -/
theorem wpList_load_mid_g {P : Program} {ops : Array Oper} {rest : List Oper} {op : Oper} {a : Act} {w : World} {Q : Exit → Act → World → Prop} (hw : Region.wanted op (yielded ops a.tmps) = true) (ty : TypeId) (x : Operand) (ho : op.op = .load ty x)
    (b o : Nat) (hx : a.eval x = .pointer (some ⟨b, o, none⟩)) (cs : List Value) (d : TypeDesc) (hc : w.rangeAt b o cs)
    (hu : P.underlying ty = some d) (hd : d.isRow = true) (hi : (P.info? ty).map (·.size) = some cs.length)
    (h : wpList P ops Q rest (a.put op.dst (.agg cs.toArray)) w) : wpList P ops Q (op :: rest) a w :=
  wpList_step fun _ hK => by
    rw [if_pos hw]
    exact wp_load_mid ty x ho b o hx cs d hc hu hd hi (hK _ _ h)
end Go.Proofs.YtjjgbcjgmjggnaaGreat
