
/- An adjacency in memory. -/
import Derived.Test.YtojlnabhaglejaaAdNil
import Derived.BigRegion
import Derived.Maps.OwnSet
namespace Go.Proofs.Ytojlnabhaglejaa
open Go.RowKit
set_option linter.unusedVariables false
set_option maxRecDepth 100000

/-- An adjacency, field by field. -/
structure AJ where
  self : Int
  other : Int
  mtu : Int
  opts : Int
  rxmt : Int
  cseq : Int
  types : Int
  number : Int
  smtu : Int
  sopts : Int
  sflags : Int
  sseq : Int
  sheads : Value
  waited : Int
  state : Int
  master : Bool
  left : Value
  tflags : Int
  topts : Int
  tnum : Int
  wm : Value
  keys : Value
  asked : Int

def AJ.cells (x : AJ) : List Value := [.int .u32 x.self, .int .u32 x.other, .int .u16 x.mtu, .int .u8 x.opts, .int .u16 x.rxmt, .int .u32 x.cseq, .int .u16 x.types, .int .u32 x.number, .int .u16 x.smtu, .int .u8 x.sopts, .int .u8 x.sflags, .int .u32 x.sseq, x.sheads, .int .u16 x.waited, .int .u8 x.state, .bool x.master, x.left, .int .u8 x.tflags, .int .u8 x.topts, .int .u32 x.tnum, x.wm, x.keys, .int .i64 x.asked]
/-- It lies in block b. -/
def Ads (w : World) (b : Nat) (x : AJ) : Prop := Row w b 70 x.cells
theorem Ads.cell {w : World} {b : Nat} {x : AJ} (h : Ads w b x) (j : Nat) : w.cell? ⟨b, j, none⟩ = x.cells[j]? := Row.cell h j
theorem Ads.lt {w : World} {b : Nat} {x : AJ} (h : Ads w b x) : b < w.heap.size := Row.lt h
theorem Ads.keep {w w' : World} {b : Nat} {x : AJ} (h : Ads w b x) (t : Touch (fun _ => False) w w') : Ads w' b x := Row.keep h t
theorem Ads.touch {F : Nat → Prop} {w w' : World} {b : Nat} {x : AJ} (h : Ads w b x) (t : Touch F w w') (hn : ¬ F b) : Ads w' b x := (t.block b h.lt hn).trans h
theorem Ads.frozen {w : World} {b : Nat} {x : AJ} (h : Ads w b x) (j : Nat) : w.frozen? ⟨b, j, none⟩ = false := Row.frozen h j
theorem Ads.set7 {w : World} {b : Nat} {x : AJ} (h : Ads w b x) (v : Int) : Ads (w.setCell ⟨b, 7, none⟩ (.int .u32 v)) b { x with number := v } := Row.set h 7 _
theorem Ads.set8 {w : World} {b : Nat} {x : AJ} (h : Ads w b x) (v : Int) : Ads (w.setCell ⟨b, 8, none⟩ (.int .u16 v)) b { x with smtu := v } := Row.set h 8 _
theorem Ads.set9 {w : World} {b : Nat} {x : AJ} (h : Ads w b x) (v : Int) : Ads (w.setCell ⟨b, 9, none⟩ (.int .u8 v)) b { x with sopts := v } := Row.set h 9 _
theorem Ads.set10 {w : World} {b : Nat} {x : AJ} (h : Ads w b x) (v : Int) : Ads (w.setCell ⟨b, 10, none⟩ (.int .u8 v)) b { x with sflags := v } := Row.set h 10 _
theorem Ads.set11 {w : World} {b : Nat} {x : AJ} (h : Ads w b x) (v : Int) : Ads (w.setCell ⟨b, 11, none⟩ (.int .u32 v)) b { x with sseq := v } := Row.set h 11 _
theorem Ads.set12 {w : World} {b : Nat} {x : AJ} (h : Ads w b x) (v : Value) : Ads (w.setCell ⟨b, 12, none⟩ (v)) b { x with sheads := v } := Row.set h 12 _
theorem Ads.set13 {w : World} {b : Nat} {x : AJ} (h : Ads w b x) (v : Int) : Ads (w.setCell ⟨b, 13, none⟩ (.int .u16 v)) b { x with waited := v } := Row.set h 13 _
theorem Ads.set14 {w : World} {b : Nat} {x : AJ} (h : Ads w b x) (v : Int) : Ads (w.setCell ⟨b, 14, none⟩ (.int .u8 v)) b { x with state := v } := Row.set h 14 _
theorem Ads.set15 {w : World} {b : Nat} {x : AJ} (h : Ads w b x) (v : Bool) : Ads (w.setCell ⟨b, 15, none⟩ (.bool v)) b { x with master := v } := Row.set h 15 _
theorem Ads.set16 {w : World} {b : Nat} {x : AJ} (h : Ads w b x) (v : Value) : Ads (w.setCell ⟨b, 16, none⟩ (v)) b { x with left := v } := Row.set h 16 _
theorem Ads.set17 {w : World} {b : Nat} {x : AJ} (h : Ads w b x) (v : Int) : Ads (w.setCell ⟨b, 17, none⟩ (.int .u8 v)) b { x with tflags := v } := Row.set h 17 _
theorem Ads.set18 {w : World} {b : Nat} {x : AJ} (h : Ads w b x) (v : Int) : Ads (w.setCell ⟨b, 18, none⟩ (.int .u8 v)) b { x with topts := v } := Row.set h 18 _
theorem Ads.set19 {w : World} {b : Nat} {x : AJ} (h : Ads w b x) (v : Int) : Ads (w.setCell ⟨b, 19, none⟩ (.int .u32 v)) b { x with tnum := v } := Row.set h 19 _
theorem Ads.set20 {w : World} {b : Nat} {x : AJ} (h : Ads w b x) (v : Value) : Ads (w.setCell ⟨b, 20, none⟩ (v)) b { x with wm := v } := Row.set h 20 _
theorem Ads.set21 {w : World} {b : Nat} {x : AJ} (h : Ads w b x) (v : Value) : Ads (w.setCell ⟨b, 21, none⟩ (v)) b { x with keys := v } := Row.set h 21 _
theorem Ads.set22 {w : World} {b : Nat} {x : AJ} (h : Ads w b x) (v : Int) : Ads (w.setCell ⟨b, 22, none⟩ (.int .i64 v)) b { x with asked := v } := Row.set h 22 _
set_option maxHeartbeats 400000 in
theorem clone_nil (w : World) : Calls Try.prog 52 #[.slice none 0 0] w fun e w' => e = .returned (.slice none 0 0) ∧ w = w' := by
  have heq : ∀ w', Sem.run Try.prog (binOp .eql 22 (.slice none 0 0) (.slice none 0 0)) w' = .ok (.bool true) w' := fun _ => rfl
  go_enter Try.func52, Try.ntmps52
  go_wp2
  go_ret
  exact ⟨rfl, rfl⟩
/-- One thing to be sent: a description without heads. -/
def OneDD (n : Nat) (w : World) (v : Value) (m o f s : Int) : Prop := ∃ g, v = .slice (some ⟨g, 0, none⟩) 1 1 ∧ n ≤ g ∧ Row w g 59 [.bool true, .int .u16 m, .int .u8 o, .int .u8 f, .int .u32 s, .slice none 0 0, .slice none 0 0]
theorem OneDD.low {n n' : Nat} {w : World} {v : Value} {m o f s : Int} (h : OneDD n w v m o f s) (hn : n' ≤ n) : OneDD n' w v m o f s := by
  obtain ⟨g, h1, h2, h3⟩ := h
  exact ⟨g, h1, Nat.le_trans hn h2, h3⟩
set_option maxHeartbeats 2000000 in
theorem repeat_nil (w : World) (b : Nat) (x : AJ) (h : Ads w b x) (hn : x.sheads = .slice none 0 0) :
    Calls Try.prog 39 #[.pointer (some ⟨b, 0, none⟩)] w fun e w' => ∃ v, e = .returned v ∧ OneDD w.heap.size w' v x.smtu x.sopts x.sflags x.sseq ∧ Touch (fun _ => False) w w' := by
  have c8 : w.cell? ⟨b, 8, none⟩ = some (.int .u16 x.smtu) := h.cell 8
  have c9 : w.cell? ⟨b, 9, none⟩ = some (.int .u8 x.sopts) := h.cell 9
  have c10 : w.cell? ⟨b, 10, none⟩ = some (.int .u8 x.sflags) := h.cell 10
  have c11 : w.cell? ⟨b, 11, none⟩ = some (.int .u32 x.sseq) := h.cell 11
  have c12 : w.cell? ⟨b, 12, none⟩ = some (x.sheads) := h.cell 12
  rw [hn] at c12
  have hb := h.lt
  have HC := clone_nil
  clear h
  go_enter Try.func39, Try.ntmps39
  go_wp2_with (go_at_call 52; refine Calls.mono (HC _) ?_; rintro e w1 ⟨rfl, rfl⟩)
  go_ret
  refine ⟨_, rfl, ⟨w.heap.size + 1, rfl, by omega, ?_⟩, ((Touch.refl _ _).alloc _).alloc _⟩
  have := row_new (w.alloc (.cells #[.int .u16 x.smtu, .int .u8 x.sopts, .int .u8 x.sflags, .int .u32 x.sseq, .slice none 0 0] 54)) 59 #[.bool true, .int .u16 x.smtu, .int .u8 x.sopts, .int .u8 x.sflags, .int .u32 x.sseq, .slice none 0 0, .slice none 0 0]
  simpa using this
theorem Ads.drew {w : World} {b : Nat} {x : AJ} (h : Ads w b x) : Ads w.drew b x := h
set_option maxHeartbeats 4000000 in
theorem tell_nil (w : World) (b : Nat) (x : AJ) (f : Int) (h : Ads w b x) :
    Calls Try.prog 35 #[.pointer (some ⟨b, 0, none⟩), .int .u8 f, .slice none 0 0] w fun e w' => ∃ v, e = .returned v ∧ OneDD w.heap.size w' v x.mtu x.opts f x.number ∧ Ads w' b { x with smtu := x.mtu, sopts := x.opts, sflags := f, sseq := x.number, sheads := .slice none 0 0, waited := 0 } ∧ Touch (fun k => k = b) w w' := by
  have c2 : w.cell? ⟨b, 2, none⟩ = some (.int .u16 x.mtu) := h.cell 2
  have c3 : w.cell? ⟨b, 3, none⟩ = some (.int .u8 x.opts) := h.cell 3
  have c7 : w.cell? ⟨b, 7, none⟩ = some (.int .u32 x.number) := h.cell 7
  have c8 : w.cell? ⟨b, 8, none⟩ = some (.int .u16 x.smtu) := h.cell 8
  have c9 : w.cell? ⟨b, 9, none⟩ = some (.int .u8 x.sopts) := h.cell 9
  have c10 : w.cell? ⟨b, 10, none⟩ = some (.int .u8 x.sflags) := h.cell 10
  have c11 : w.cell? ⟨b, 11, none⟩ = some (.int .u32 x.sseq) := h.cell 11
  have c12 : w.cell? ⟨b, 12, none⟩ = some (x.sheads) := h.cell 12
  have c13 : w.cell? ⟨b, 13, none⟩ = some (.int .u16 x.waited) := h.cell 13
  have hb := h.lt
  have hf := h.frozen
  have HA : Hid (Ads w b x) := h
  have HR : Hid (∀ w' x', Ads w' b x' → x'.sheads = .slice none 0 0 → Calls Try.prog 39 #[.pointer (some ⟨b, 0, none⟩)] w' fun e w'' => ∃ v, e = .returned v ∧ OneDD w'.heap.size w'' v x'.smtu x'.sopts x'.sflags x'.sseq ∧ Touch (fun _ => False) w' w'') := fun w' x' h' hn => repeat_nil w' b x' h' hn
  clear h
  go_enter Try.func35, Try.ntmps35
  go_wp2_with fail
  go_region
  go_wp2_with fail
  have HA2 := ((((((HA.out.set8 x.mtu).set9 x.opts).set10 f).set11 x.number).set12 (.slice none 0 0)).set13 0).drew
  have T2 : Touch (fun k => k = b) w _ := (((((((Touch.refl (fun k => k = b) w).setCell (p := ⟨b, 8, none⟩) (Or.inl rfl) (.int .u16 x.mtu)).setCell (p := ⟨b, 9, none⟩) (Or.inl rfl) (.int .u8 x.opts)).setCell (p := ⟨b, 10, none⟩) (Or.inl rfl) (.int .u8 f)).setCell (p := ⟨b, 11, none⟩) (Or.inl rfl) (.int .u32 x.number)).setCell (p := ⟨b, 12, none⟩) (Or.inl rfl) (.slice none 0 0)).setCell (p := ⟨b, 13, none⟩) (Or.inl rfl) (.int .u16 0)).drew
  refine Calls.mono (HR.out _ _ HA2 rfl) ?_
  rintro e w1 ⟨v, rfl, od, t⟩
  have HA3 := HA2.keep t
  have T3 := T2.trans (t.mono (fun _ _ h => h.elim))
  replace od := od.low T2.size
  clear HA2 T2 c2 c3 c7 c8 c9 c10 c11 c12 c13 hf
  go_wp2_with fail
  go_ret
  exact ⟨v, rfl, od, HA3, T3⟩
theorem heap_new (w : World) (o : Obj) : (w.alloc o).heap[w.heap.size]? = some o := by
  show (w.heap.push _)[w.heap.size]? = _
  simp
set_option maxHeartbeats 1000000 in
theorem makeWants_any (w : World) : Calls Try.prog 34 #[] w fun e w' => e = .returned (.agg #[.map (some (w.heap.size + 1)), .slice none 0 0]) ∧ w'.heap[w.heap.size + 1]? = some (.map #[] 0) ∧ w'.heap.size = w.heap.size + 2 ∧ Touch (fun _ => False) w w' := by
  have hmm := @run_makeMap Try.prog
  go_enter Try.func34, Try.ntmps34
  go_wp2_with fail
  refine bodyPost_ret (v := .agg #[.map (some (w.heap.size + 1)), .slice none 0 0]) (by simp [results, Try.results34, go_sem]) rfl ⟨rfl, ?_, ?_, ?_⟩
  · have := heap_new (w.alloc (.cells #[.map (some (w.heap.size + 1)), .slice none 0 0] 66)) (.map #[] 0)
    simpa using this
  · simp [go_sem]
  · exact ((Touch.refl _ _).alloc _).alloc _
set_option maxHeartbeats 4000000 in
theorem begin_any (w : World) (b : Nat) (x : AJ) (h : Ads w b x) :
    Calls Try.prog 25 #[.pointer (some ⟨b, 0, none⟩)] w fun e w' => ∃ v m, e = .returned v ∧ OneDD w.heap.size w' v x.mtu x.opts 7 x.number ∧ Ads w' b { x with smtu := x.mtu, sopts := x.opts, sflags := 7, sseq := x.number, sheads := .slice none 0 0, waited := 0, state := 0, master := false, left := .slice none 0 0, tflags := 0, topts := 0, tnum := 0, wm := .map (some m), keys := .slice none 0 0, asked := 0 } ∧ w'.heap[m]? = some (.map #[] 0) ∧ w.heap.size ≤ m ∧ Touch (fun k => k = b) w w' := by
  have HA : Hid (Ads w b x) := h
  clear h
  go_enter Try.func25, Try.ntmps25
  go_wp2_with fail
  refine Calls.mono (makeWants_any _) ?_
  rintro e w1 ⟨rfl, hm, hs, t1⟩
  have h := HA.out.keep t1
  have c14 : w1.cell? ⟨b, 14, none⟩ = some (.int .u8 x.state) := h.cell 14
  have c15 : w1.cell? ⟨b, 15, none⟩ = some (.bool x.master) := h.cell 15
  have c16 : w1.cell? ⟨b, 16, none⟩ = some (x.left) := h.cell 16
  have c17 : w1.cell? ⟨b, 17, none⟩ = some (.int .u8 x.tflags) := h.cell 17
  have c18 : w1.cell? ⟨b, 18, none⟩ = some (.int .u8 x.topts) := h.cell 18
  have c19 : w1.cell? ⟨b, 19, none⟩ = some (.int .u32 x.tnum) := h.cell 19
  have c20 : w1.cell? ⟨b, 20, none⟩ = some (x.wm) := h.cell 20
  have c21 : w1.cell? ⟨b, 21, none⟩ = some (x.keys) := h.cell 21
  have c22 : w1.cell? ⟨b, 22, none⟩ = some (.int .i64 x.asked) := h.cell 22
  have hb := h.lt
  have hf := h.frozen
  have hbw := HA.out.lt
  obtain ⟨m, hmd⟩ : ∃ m, w.heap.size + 1 = m := ⟨_, rfl⟩
  rw [hmd] at hm ⊢
  have HMD : Hid (w.heap.size + 1 = m) := hmd
  clear hmd
  have hmm : Hid (w1.heap[m]? = some (.map #[] 0)) := hm
  have HA1 : Hid (Ads w1 b x) := h
  have HT1 : Hid (Touch (fun _ => False) w w1) := t1
  clear h hm t1 hs
  go_wp2_with fail
  have HA2 := (((((((((HA1.out.set14 0).set15 false).set16 (.slice none 0 0)).set17 0).set18 0).set19 0).set20 (.map (some m))).set21 (.slice none 0 0)).set22 0)
  have T2 : Touch (fun k => k = b) w1 _ := ((((((((((Touch.refl (fun k => k = b) w1).setCell (p := ⟨b, 14, none⟩) (Or.inl rfl) (.int .u8 0)).setCell (p := ⟨b, 15, none⟩) (Or.inl rfl) (.bool false)).setCell (p := ⟨b, 16, none⟩) (Or.inl rfl) (.slice none 0 0)).setCell (p := ⟨b, 17, none⟩) (Or.inl rfl) (.int .u8 0)).setCell (p := ⟨b, 18, none⟩) (Or.inl rfl) (.int .u8 0)).setCell (p := ⟨b, 19, none⟩) (Or.inl rfl) (.int .u32 0)).setCell (p := ⟨b, 20, none⟩) (Or.inl rfl) (.map (some m))).setCell (p := ⟨b, 21, none⟩) (Or.inl rfl) (.slice none 0 0)).setCell (p := ⟨b, 22, none⟩) (Or.inl rfl) (.int .i64 0))
  refine Calls.mono (tell_nil _ b _ 7 HA2) ?_
  rintro e w2 ⟨v, rfl, od, HA3, t2⟩
  have T3 := T2.trans t2
  replace od := od.low (Nat.le_trans HT1.out.size T2.size)
  clear HA2 T2 t2 hf c14 c15 c16 c17 c18 c19 c20 c21 c22
  go_wp2_with fail
  go_ret
  have hmd := HMD.out
  refine ⟨v, m, rfl, od, HA3, ?_, by omega, (HT1.out.mono (fun _ _ f => f.elim)).trans T3⟩
  exact (T3.block m (lt_of_heap hmm.out) (fun e => by omega)).trans hmm.out
end Go.Proofs.Ytojlnabhaglejaa
