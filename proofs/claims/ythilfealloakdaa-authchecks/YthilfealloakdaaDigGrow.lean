/- Package packet: a flaw is thrown and caught: need, face. -/
import Derived.Test.YthilfealloakdaaEqB
import Derived.Recover
import Derived.Defers
import Derived.Test.YthilfealloakdaaDigBuf
import Derived.Lib.AppendZerosOnto
import Derived.Lib.Walk
namespace Go.Proofs.Ythilfealloakdaa
open Go.RowKit
set_option linter.unusedVariables false
set_option maxRecDepth 100000

/-- A flaw of a packet on its way. -/
def pflawC (e : Int) : List PanicEntry := [{ v := .iface 116 (.int .i64 e), recovered := false }]
theorem pneed_ok (e : Int) (w : World) : Calls Try.prog 76 #[.bool true, .int .i64 e] w fun x w' => x = .returned (.tuple #[]) ∧ w = w' := by
  go_enter Try.func76, Try.ntmps76
  go_wp2
  go_end0
  exact ⟨rfl, rfl⟩
theorem pneed_no (e : Int) (w : World) : Calls Try.prog 76 #[.bool false, .int .i64 e] w fun x w' => x = .panicked (pflawC e) ∧ w = w' := by
  go_enter Try.func76, Try.ntmps76
  go_wp2
  exact ⟨rfl, rfl, rfl⟩
theorem pneed_t (t : Bool) (e : Int) (w : World) (ht : t = true) : Calls Try.prog 76 #[.bool t, .int .i64 e] w fun x w' => x = .returned (.tuple #[]) ∧ w = w' := by subst ht; exact pneed_ok e w
theorem pneed_f (t : Bool) (e : Int) (w : World) (ht : t = false) : Calls Try.prog 76 #[.bool t, .int .i64 e] w fun x w' => x = .panicked (pflawC e) ∧ w = w' := by subst ht; exact pneed_no e w
theorem pta_flaw (e : Int) (w : World) : (Instr.typeAssert (.iface 116 (.int .i64 e)) 20 116 true).run Try.prog w = .ok (.tuple #[.int .i64 e, .bool true]) w := by kernel_rfl
theorem pta_nil (w : World) : (Instr.typeAssert .nilIface 20 116 true).run Try.prog w = .ok (.tuple #[.int .i64 0, .bool false]) w := by kernel_rfl
theorem pcatch_flaw (b : Nat) (x e : Int) (w : World) (hc : w.cell? ⟨b, 0, none⟩ = some (.int .i64 x)) (hz : w.frozen? ⟨b, 0, none⟩ = false) :
    CallsD Try.prog 75 #[.pointer (some ⟨b, 0, none⟩)] (.panicking (pflawC e)) w fun r u' w' =>
      r = .returned (.tuple #[]) ∧ u' = .panicking [{ v := .iface 116 (.int .i64 e), recovered := true }] ∧ w' = w.setCell ⟨b, 0, none⟩ (.int .i64 e) := by
  refine callsD_of_wpS Try.func75 rfl fun c₀ cs hu => ?_
  apply wpS_seq
  apply wpS_region
  simp [wpOpsS, go_sem, recoverD, hu, pflawC, pta_flaw, Try.ntmps75, Exit.thenS]
  apply wpS_seq
  apply wpS_region
  simp [wpOpsS, go_sem, Exit.thenS]
  refine wpS_cond (t := true) (by simp [Act.eval, Array.replicate]) ?_
  simp only [if_true]
  apply wpS_region
  simp [wpOpsS, go_sem, hc, hz, bodyPostS, results, Try.results75]
theorem pcatch_idle (b : Nat) (w : World) :
    CallsD Try.prog 75 #[.pointer (some ⟨b, 0, none⟩)] .returning w fun r u' w' => r = .returned (.tuple #[]) ∧ u' = .returning ∧ w' = w := by
  refine callsD_of_wpS Try.func75 rfl fun c₀ cs hu => ?_
  apply wpS_seq
  apply wpS_region
  simp [wpOpsS, go_sem, recoverD, hu, pta_nil, Try.ntmps75, Exit.thenS]
  apply wpS_seq
  apply wpS_region
  simp [wpOpsS, go_sem, Exit.thenS]
  refine wpS_cond (t := false) (by simp [Act.eval, Array.replicate]) ?_
  simp only [Bool.false_eq_true, if_false]
  refine wpS_of_wp (wp_skip ?_)
  cases c₀
  simp_all [bodyPostS, results, Try.results75]
/-- The face where its function ends by itself: K is what it leaves. -/
theorem pface_ok (G : Nat) (cap : Array Value) (hG : ∀ w, (callFunc G cap).run Try.prog w = .ok (.enter G cap) w) (w : World) (F : Nat → Prop) (hF : ¬ F w.heap.size) (K : World → Prop)
    (h : Calls Try.prog G cap (w.alloc (.cells #[.int .i64 0] 26)) fun e w' => e = .returned (.tuple #[]) ∧ Touch F (w.alloc (.cells #[.int .i64 0] 26)) w' ∧ K w')
    (hK : ∀ w1 w2, K w1 → Touch (fun k => k = w.heap.size) w1 w2 → K w2) :
    Calls Try.prog 55 #[.func (.func G) #[] cap] w fun e w' => e = .returned (.int .i64 0) ∧ Touch F w w' ∧ K w' := by
  have hmf : ∀ (fn : Fn) (first cap : Array Value) (w : World), (Instr.makeFunc fn first cap).run Try.prog w = .ok (.func fn first cap) w := fun _ _ _ _ => rfl
  go_enter_defers Try.func55, Try.ntmps55
  go_wp2_with fail
  refine h.mono ?_
  rintro e w1 ⟨rfl, t1, k1⟩
  have fz1 : w1.frozen? ⟨w.heap.size, 0, none⟩ = false := (t1.frozen (p := ⟨w.heap.size, 0, none⟩) (by simp) hF).trans (by simp [go_sem])
  have ce1 : w1.cell? ⟨w.heap.size, 0, none⟩ = some (.int .i64 0) := (t1.cell (p := ⟨w.heap.size, 0, none⟩) (by simp) hF).trans (by simp [go_sem])
  have HT : Hid (Touch F w w1) := ((Touch.refl F w).alloc _).trans t1
  have HK : Hid (K w1) := k1
  have U : Hid (Touch (fun k => k = w.heap.size) w1 (w1.setCell ⟨w.heap.size, 0, none⟩ (.int .i64 0))) := Touch.setCell (F := fun k => k = w.heap.size) (p := ⟨w.heap.size, 0, none⟩) (Touch.refl _ _) (Or.inl rfl) _
  have de : (w1.setCell ⟨w.heap.size, 0, none⟩ (.int .i64 0)).cell? ⟨w.heap.size, 0, none⟩ = some (.int .i64 0) := by simp [ce1, go_sem]
  clear t1 k1 h
  go_wp2_with fail
  generalize w1.setCell ⟨w.heap.size, 0, none⟩ (.int .i64 0) = w2 at *
  clear ce1 fz1
  refine leaves_cons (f := 75) (args := #[.pointer (some ⟨w.heap.size, 0, none⟩)]) (by simp) (by simp [go_sem]) ?_
  refine (pcatch_idle w.heap.size _).mono ?_
  rintro e u' w'' ⟨rfl, rfl, rfl⟩
  exact ⟨.int .i64 0, by simp [results, Try.results55, go_sem, de], rfl, HT.out.trans' U.out (fun i hi e => by omega), hK _ _ HK.out U.out⟩
/-- The face where its function gives up. -/
theorem pface_no (G : Nat) (cap : Array Value) (hG : ∀ w, (callFunc G cap).run Try.prog w = .ok (.enter G cap) w) (w : World) (F : Nat → Prop) (hF : ¬ F w.heap.size) (err : Int) (K : World → Prop)
    (h : Calls Try.prog G cap (w.alloc (.cells #[.int .i64 0] 26)) fun e w' => e = .panicked (pflawC err) ∧ Touch F (w.alloc (.cells #[.int .i64 0] 26)) w' ∧ K w')
    (hK : ∀ w1 w2, K w1 → Touch (fun k => k = w.heap.size) w1 w2 → K w2) :
    Calls Try.prog 55 #[.func (.func G) #[] cap] w fun e w' => e = .returned (.int .i64 err) ∧ Touch F w w' ∧ K w' := by
  have hmf : ∀ (fn : Fn) (first cap : Array Value) (w : World), (Instr.makeFunc fn first cap).run Try.prog w = .ok (.func fn first cap) w := fun _ _ _ _ => rfl
  go_enter_defers Try.func55, Try.ntmps55
  go_wp2_with fail
  refine h.mono ?_
  rintro e w1 ⟨rfl, t1, k1⟩
  have fz1 : w1.frozen? ⟨w.heap.size, 0, none⟩ = false := (t1.frozen (p := ⟨w.heap.size, 0, none⟩) (by simp) hF).trans (by simp [go_sem])
  have ce1 : w1.cell? ⟨w.heap.size, 0, none⟩ = some (.int .i64 0) := (t1.cell (p := ⟨w.heap.size, 0, none⟩) (by simp) hF).trans (by simp [go_sem])
  have HT : Hid (Touch F w w1) := ((Touch.refl F w).alloc _).trans t1
  have U : Touch (fun k => k = w.heap.size) w1 (w1.setCell ⟨w.heap.size, 0, none⟩ (.int .i64 err)) := Touch.setCell (F := fun k => k = w.heap.size) (p := ⟨w.heap.size, 0, none⟩) (Touch.refl _ _) (Or.inl rfl) _
  refine leaves_cons (f := 75) (args := #[.pointer (some ⟨w.heap.size, 0, none⟩)]) (by simp) (by simp [go_sem]) ?_
  refine (pcatch_flaw w.heap.size 0 err _ ce1 fz1).mono ?_
  rintro e u' w'' ⟨rfl, rfl, rfl⟩
  exact ⟨.int .i64 err, by simp [results, Try.results55, go_sem, ce1], rfl, HT.out.trans' U (fun i hi e => by omega), hK _ _ k1 U⟩
end Go.Proofs.Ythilfealloakdaa

namespace Go.Proofs.Ythilfealloakdaa
open Go.RowKit
set_option linter.unusedVariables false
set_option maxRecDepth 100000

set_option maxHeartbeats 1000000 in
theorem grow_any (n : Nat) (w : World) (hn : n ≤ 1099511627776) : Calls Try.prog 96 #[.slice none 0 0, .int .i64 (n : Int)] w fun e w' => ∃ v', e = .returned v' ∧ Buf w w' v' [] := by
  obtain ⟨i0, hi, hz0, hz1, hz2⟩ := info_parts Try.info5w
  by_cases h0 : n = 0
  · subst h0
    go_enter Try.func96, Try.ntmps96
    go_wp2
    go_ret
    exact ⟨_, rfl, Buf.nil (Touch.refl _ w)⟩
  · have h1 : ¬ ((n : Int) < 0) := by omega
    have h4 : (n : Int) > 0 := by omega
    have hold : (Builtin.firstCells i0.size 0 (.slice none 0 0)).run Try.prog w.drew = .ok ([] : List Value).toArray w.drew := by
      simp [Builtin.firstCells]
    have hrz := fun ty => Lib.run_append_grow_zeros (P := Try.prog) w 47 3 ty 5 i0 (.int .u8 0) .i64 .i64 Try.underlying47 Try.underlying3 hi hz0 none 0 0 [] hold n (by omega) (by omega) (by omega) (by omega) (by rw [hz2]; omega) (growslice_fits (by omega) (by rw [hz2]; omega))
    have hGn : n ≤ grownCap w n 0 5 := grownCap_ge w _ _ _
    have hGm : grownCap w n 0 5 ≤ maxLen := grownCap_le_maxLen w n 0 5 (by unfold maxLen; omega)
    simp only [Nat.zero_add] at hrz
    generalize grownCap w n 0 5 = G at hrz hGn hGm
    have hG63 : G ≤ 9223372036854775807 := by unfold maxLen at hGm; omega
    have HB : Hid (Buf w (w.drew.alloc (Obj.cells (([] : List Value).toArray ++ Builtin.zeroCells (Value.int IntKind.u8 0).cells n ++ Builtin.zeroCells (Value.int IntKind.u8 0).cells (G - n)) 5)) (.slice (some ⟨w.heap.size, 0, none⟩) 0 G) []) := by
      refine ⟨⟨rfl, Or.inr ⟨w.heap.size, G, _, rfl, Nat.le_refl _, heap_alloc_new w.drew _, Nat.zero_le _, hGm, ?_, by simp [bytesOf]⟩⟩, ((Touch.refl _ w).drew).alloc _⟩
      simp only [Array.size_append, size_zeroCells]
      simp [Value.cells]
      omega
    generalize hw : (w.drew.alloc (Obj.cells (([] : List Value).toArray ++ Builtin.zeroCells (Value.int IntKind.u8 0).cells n ++ Builtin.zeroCells (Value.int IntKind.u8 0).cells (G - n)) 5)) = wz at hrz HB
    clear hold hw hi hz0 hz1 hz2 hGm
    go_enter Try.func96, Try.ntmps96
    go_wp2_with (at_builtin; refine Lib.wpList_append_run _ rfl _ _ _ _ rfl _ _ rfl rfl _ _ (hrz _) ?_)
    all_goals (go_ret; exact ⟨_, rfl, HB.out⟩)

def CcA (n1 n2 : Nat) (s i : Value) : Prop := ∃ k : Nat, k ≤ 2 ∧ i = .int .i64 (k : Int) ∧ s = .int .i64 ((if k = 0 then 0 else if k = 1 then n1 else n1 + n2 : Nat) : Int)
def CcB (w0 : World) (r1 r2 : List Int) (p i : Value) (wr : World) : Prop := ∃ k : Nat, k ≤ 2 ∧ i = .int .i64 (k : Int) ∧ Buf w0 wr p (if k = 0 then [] else if k = 1 then r1 else r1 ++ r2)
set_option maxHeartbeats 1000000 in
theorem concat_any (gp : Nat) (v1 v2 : Value) (r1 r2 : List Int) (w : World) (c1 : w.cell? ⟨gp, 0, none⟩ = some v1) (c2 : w.cell? ⟨gp, 1, none⟩ = some v2) (h1 : ArgAt w v1 r1) (h2 : ArgAt w v2 r2) (hl1 : r1.length ≤ 1073741824) (hl2 : r2.length ≤ 1073741824) :
    Calls Try.prog 82 #[.slice (some ⟨gp, 0, none⟩) 2 2] w fun e w' => ∃ v', e = .returned v' ∧ Buf w w' v' (r1 ++ r2) := by
  obtain ⟨a1, k1, rfl, _⟩ := h1.form
  obtain ⟨a2, k2, rfl, _⟩ := h2.form
  have H1 : Hid (ArgAt w (.slice a1 r1.length k1) r1) := h1
  have H2 : Hid (ArgAt w (.slice a2 r2.length k2) r2) := h2
  clear h1 h2
  go_enter Try.func82, Try.ntmps82
  go_wp2_with fail
  go_loop [3, 11] (fun s i => CcA r1.length r2.length s i) (fun _ i => 2 - (intOf i).toNat)
  case atStart => exact ⟨0, by omega, rfl, rfl⟩
  case round =>
    obtain ⟨k, hk, rfl, rfl⟩ := hrel
    match k, hk with
    | 0, _ =>
      simp only [reduceIte]
      go_wp2_with fail
      go_round
      case rel => exact ⟨1, by omega, rfl, by simp⟩
      case measure => simp [intOf]
    | 1, _ =>
      simp only [reduceIte, Nat.reduceEqDiff]
      go_wp2_with fail
      go_round
      case rel => exact ⟨2, by omega, rfl, by simp⟩
      case measure => simp [intOf]
    | 2, _ =>
      simp only [reduceIte, Nat.reduceEqDiff]
      have HG := grow_any (r1.length + r2.length) w (by omega)
      go_wp2_with (first | refine HG.mono ?_; rintro e w1 ⟨p, rfl, hb⟩)
      have HB0 : Hid (CcB w r1 r2 p (.int .i64 ((0 : Nat) : Int)) w1) := ⟨0, by omega, rfl, hb⟩
      clear hb HG
      go_wp2_with fail
      go_loopw [6, 27] (fun p i wr => CcB w r1 r2 p i wr) (fun _ i _ => 2 - (intOf i).toNat)
      case atStart => exact HB0.out
      case round =>
        clear HB0
        obtain ⟨k, hk, rfl, hb⟩ := hrel
        have HT : Hid (Touch (fun _ => False) w wr) := hb.t
        match k, hk with
        | 0, _ =>
          simp only [reduceIte] at hb
          have d1 := HT.out.cellN c1
          go_wp2_with (at_builtin; refine app_arg rfl (.tmp 31) (.tmp 32) rfl w _ [] rfl hb _ r1 rfl (H1.out.keep HT.out (fun _ _ h => h)) (by simp; omega) ?_; intro v' w' hb')
          go_roundw
          case rel => exact ⟨1, by omega, rfl, hb'⟩
          case measure => simp [intOf]
        | 1, _ =>
          simp only [reduceIte, Nat.reduceEqDiff] at hb
          have d1 := HT.out.cellN c2
          go_wp2_with (at_builtin; refine app_arg rfl (.tmp 31) (.tmp 32) rfl w _ r1 rfl hb _ r2 rfl (H2.out.keep HT.out (fun _ _ h => h)) (by omega) ?_; intro v' w' hb')
          go_roundw
          case rel => exact ⟨2, by omega, rfl, hb'⟩
          case measure => simp [intOf]
        | 2, _ =>
          simp only [reduceIte, Nat.reduceEqDiff] at hb
          go_wp2_with fail
          go_ret
          exact ⟨_, rfl, hb⟩
        | n + 3, h => omega
    | n + 3, h => omega
end Go.Proofs.Ythilfealloakdaa
