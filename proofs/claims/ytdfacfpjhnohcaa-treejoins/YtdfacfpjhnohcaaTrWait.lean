
/- A line's wait and next; a hop that goes on; hops joined. -/
import Derived.Test.YtdfacfpjhnohcaaTrPop
import Derived.Test.YtdfacfpjhnohcaaTrInv
import Derived.BigQuiet
namespace Go.Proofs.Ytdfacfpjhnohcaa
open Go.RowKit
set_option linter.unusedVariables false
set_option maxRecDepth 100000

set_option maxHeartbeats 1000000 in
theorem wait_any (w : World) (b : Nat) (v : Value) (B : Nat) (l : List Sp) (P : LS w b v B l) (hh : HP l.length (gt l)) (x : Sp) (hB : B ≤ w.heap.size) (hl : l.length + 1 ≤ 1099511627776) :
    Calls Try.prog 28 #[.pointer (some ⟨b, 0, none⟩), .agg #[.int .i64 x.node, .int .u32 x.cost, .int .u32 x.h.out, .int .u32 x.h.via, .bool x.h.vr]] w fun e w' => e = .returned (.tuple #[]) ∧ Heaped w b v B (l ++ [x]) w' := by
  have hb := P.lt
  have HP0 : Hid _ := P
  have HH : Hid _ := hh
  have HBB : Hid _ := hB
  clear P hh hB
  go_enter Try.func28, Try.ntmps28
  go_wp2_with fail
  have T : Touch (fun _ => False) w (w.alloc (.cells #[.int .i64 x.node, .int .u32 x.cost, .int .u32 x.h.out, .int .u32 x.h.via, .bool x.h.vr] 68)) := (Touch.refl _ _).alloc _
  refine Calls.mono (hpush_any _ b v B l (HP0.out.keep T) HH.out x (Nat.le_trans HBB.out T.size) hl) ?_
  rintro e w1 ⟨rfl, H⟩
  have HR : Hid _ := H
  have HT : Hid _ := T
  clear H T
  go_wp2_with fail
  refine bodyPost_end (results_none rfl _ _ _) rfl ⟨rfl, ?_⟩
  obtain ⟨⟨v', l', P1, pe, h1, hv⟩, t1⟩ := HR.out
  have ts := HT.out.size
  refine ⟨⟨v', l', P1, pe, h1, ?_⟩, ?_⟩
  · rcases hv with h | ⟨g, h, hg⟩
    · exact Or.inl h
    · exact Or.inr ⟨g, h, Nat.le_trans ts hg⟩
  · exact ((⟨(TouchB.of HT.out hb (fun h => h)).t.mono (fun _ _ e => e.elim Or.inl (fun h => h.elim)), (TouchB.of HT.out hb (fun h => h)).rest⟩ : TouchB b (fun k => v.ownBlock = some k) w _)).trans t1 (fun _ _ h => h)

/-- What taking the first one leaves. -/
structure NextP (w : World) (b : Nat) (v : Value) (B : Nat) (l : List Sp) (e : Ending) (w' : World) : Prop where
  out : ∃ s v' l', e = .returned s.v ∧ LS w' b v' B l' ∧ l.Perm (l' ++ [s]) ∧ HP l'.length (gt l') ∧ (∀ y ∈ l, s.le y) ∧ v'.ownBlock = v.ownBlock
  t : TouchB b (fun k => v.ownBlock = some k) w w'
set_option maxHeartbeats 1000000 in
theorem next_any (w : World) (b : Nat) (v : Value) (B : Nat) (l : List Sp) (P : LS w b v B l) (hh : HP l.length (gt l)) (hl : 0 < l.length) :
    Calls Try.prog 20 #[.pointer (some ⟨b, 0, none⟩)] w (NextP w b v B l) := by
  have hb := P.lt
  have HP0 : Hid _ := P
  have HH : Hid _ := hh
  clear P hh
  go_enter Try.func20, Try.ntmps20
  go_wp2_with fail
  have T : Touch (fun _ => False) w (w.alloc (.cells #[.int .i64 0, .int .u32 0, .int .u32 0, .int .u32 0, .bool false] 68)) := (Touch.refl _ _).alloc _
  have R0 : Row (w.alloc (.cells #[.int .i64 0, .int .u32 0, .int .u32 0, .int .u32 0, .bool false] 68)) w.heap.size 68 [.int .i64 0, .int .u32 0, .int .u32 0, .int .u32 0, .bool false] := row_new w _ _
  generalize w.alloc (.cells #[.int .i64 0, .int .u32 0, .int .u32 0, .int .u32 0, .bool false] 68) = wa at T R0 ⊢
  refine Calls.mono (hpop_any wa b v B l (HP0.out.keep T) HH.out hl) ?_
  rintro e w1 ⟨⟨⟨sn, sc, so, sv, sr⟩, v1, l1, rfl, P1, pe, h1, mn, hv⟩, t1⟩
  have hta := assert_step ⟨sn, sc, so, sv, sr⟩
  simp only [Sp.v]
  simp only at hta
  have hH : w.heap.size < wa.heap.size := R0.lt
  have hbH : ¬ w.heap.size = b := by omega
  have R1 : Row w1 w.heap.size 68 [.int .i64 0, .int .u32 0, .int .u32 0, .int .u32 0, .bool false] := (t1.t.block _ hH (fun e => e.elim hbH (fun e => by have := (HP0.out.re.lt e); omega))).trans R0
  have r0 : w1.cell? ⟨w.heap.size, 0, none⟩ = some (.int .i64 0) := R1.cell 0
  have r1 : w1.cell? ⟨w.heap.size, 1, none⟩ = some (.int .u32 0) := R1.cell 1
  have r2 : w1.cell? ⟨w.heap.size, 2, none⟩ = some (.int .u32 0) := R1.cell 2
  have r3 : w1.cell? ⟨w.heap.size, 3, none⟩ = some (.int .u32 0) := R1.cell 3
  have r4 : w1.cell? ⟨w.heap.size, 4, none⟩ = some (.bool false) := R1.cell 4
  have rf := R1.frozen
  have hH1 := R1.lt
  have FIN : Hid (∀ w', Touch (fun k => k = w.heap.size) w1 w' → NextP w b v B l (.returned (Sp.v ⟨sn, sc, so, sv, sr⟩)) w') := by
    intro w' t
    have hb1 := P1.lt
    have hn : ∀ j, v1.ownBlock = some j → ¬ j = w.heap.size := fun j hj e => by
      rw [hv] at hj
      have := HP0.out.re.lt hj
      omega
    refine ⟨⟨⟨sn, sc, so, sv, sr⟩, v1, l1, rfl, ⟨(t.cell (p := ⟨b, 0, none⟩) hb1 (fun e => hbH e.symm)).trans P1.c0, (t.frozen (p := ⟨b, 0, none⟩) hb1 (fun e => hbH e.symm)).trans P1.f0, P1.re.keep t hn, P1.bv, P1.hl⟩, pe, h1, mn, hv⟩, ?_⟩
    have q0 : TouchB b (fun k => v.ownBlock = some k) w wa := ⟨(TouchB.of T hb (fun h => h)).t.mono (fun _ _ e => e.elim Or.inl (fun h => h.elim)), (TouchB.of T hb (fun h => h)).rest⟩
    exact (q0.trans t1 (fun _ _ h => h)).trans (TouchB.of t hb1 (fun e => hbH e.symm)) (fun i hi e => by omega)
  clear T R0 P1 pe h1 mn t1 R1
  go_wp2_with fail
  have ts : Touch (fun k => k = w.heap.size) w1 ((((((w1.setCell ⟨w.heap.size, 0, none⟩ (.int .i64 sn)).setCell ⟨w.heap.size, 1, none⟩ (.int .u32 sc)).setCell ⟨w.heap.size, 2, none⟩ (.int .u32 so)).setCell ⟨w.heap.size, 3, none⟩ (.int .u32 sv)).setCell ⟨w.heap.size, 4, none⟩ (.bool sr)).alloc (.cells #[.int .i64 sn, .int .u32 sc, .int .u32 so, .int .u32 sv, .bool sr] 68)) := by
    refine Touch.alloc ?_ _
    exact tset1 (tset1 (tset1 (tset1 (tset1 (Touch.refl _ _) _ _) _ _) _ _) _ _) _ _
  refine bodyPost_ret (v := .agg #[.int .i64 sn, .int .u32 sc, .int .u32 so, .int .u32 sv, .bool sr]) ?_ (by rfl) ?_
  case refine_2 => exact FIN.out _ ts
  simp [results, Try.results20, go_sem, r0, r1, r2, r3, r4, hH1]

/-- A node in memory: its cells. -/
structure NM where
  t : TN
  addr : Int
  bits : Int
  flags : Int
  ea : Option Addr
  ec : Nat
  sa : Option Addr
  sn : Nat
  sc : Nat
def NM.cs (x : NM) : List Value := [.bool x.t.net, .int .u32 x.t.id, .int .u32 x.addr, .int .u8 x.bits, .int .u8 x.flags, .slice x.ea x.t.edges.length x.ec, .slice x.sa x.sn x.sc]

set_option maxHeartbeats 1000000 in
theorem into_any (w : World) (h : HK) (x : NM) : Calls Try.prog 27 #[.agg #[.int .u32 h.out, .int .u32 h.via, .bool h.vr], .agg #[.bool x.t.net, .int .u32 x.t.id, .int .u32 x.addr, .int .u8 x.bits, .int .u8 x.flags, .slice x.ea x.t.edges.length x.ec, .slice x.sa x.sn x.sc]] w fun e w' => e = .returned (intoH h x.t).v ∧ Touch (fun _ => False) w w' := by
  obtain ⟨⟨net, id, es⟩, a, b, f, ea, ec, sa, sn, sc⟩ := x
  obtain ⟨ho, hv, hr⟩ := h
  simp only
  generalize es.length = en
  by_cases h0 : hv = 0
  · have HZ : intoH ⟨ho, hv, hr⟩ ⟨net, id, es⟩ = if net = true then ⟨ho, 0, false⟩ else ⟨ho, id, hr⟩ := by simp [intoH, h0]
    cases net
    · have HZ2 : Hid (intoH ⟨ho, hv, hr⟩ ⟨false, id, es⟩ = ⟨ho, id, hr⟩) := by rw [HZ]; rfl
      clear HZ
      go_enter Try.func27, Try.ntmps27
      go_wp2_with fail
      refine bodyPost_ret (v := .agg #[.int .u32 ho, .int .u32 id, .bool hr]) ?_ rfl ⟨by rw [HZ2.out]; rfl, (((Touch.refl _ _).alloc _).alloc _).alloc _⟩
      simp [results, Try.results27, go_sem]
    · have HZ2 : Hid (intoH ⟨ho, hv, hr⟩ ⟨true, id, es⟩ = ⟨ho, 0, false⟩) := by rw [HZ]; rfl
      clear HZ
      go_enter Try.func27, Try.ntmps27
      go_wp2_with fail
      refine bodyPost_ret (v := .agg #[.int .u32 ho, .int .u32 0, .bool false]) ?_ rfl ⟨by rw [HZ2.out]; rfl, (((Touch.refl _ _).alloc _).alloc _).alloc _⟩
      simp [results, Try.results27, go_sem]
  · have HZ2 : Hid (intoH ⟨ho, hv, hr⟩ ⟨net, id, es⟩ = ⟨ho, hv, hr⟩) := (if_pos h0 : intoH ⟨ho, hv, hr⟩ ⟨net, id, es⟩ = ⟨ho, hv, hr⟩)
    go_enter Try.func27, Try.ntmps27
    go_wp2_with fail
    refine bodyPost_ret (v := .agg #[.int .u32 ho, .int .u32 hv, .bool hr]) ?_ rfl ⟨by rw [HZ2.out]; rfl, (((Touch.refl _ _).alloc _).alloc _).alloc _⟩
    simp [results, Try.results27, go_sem]

end Go.Proofs.Ytdfacfpjhnohcaa
