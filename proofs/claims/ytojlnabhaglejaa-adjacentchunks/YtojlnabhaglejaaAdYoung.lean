
/- Those that are not old, as a list of their own; a map by keys. -/
import Derived.Test.YtojlnabhaglejaaAdGen
import Derived.Deep.RegionHeld3
import Derived.Deep.MidRow
namespace Go.Proofs.Ytojlnabhaglejaa
open Go.RowKit
set_option linter.unusedVariables false
set_option maxRecDepth 100000

open Go.ChangeMaps (setBlock)
open Go.MapKept
/-- A head that is not old, its numbers in their kinds. -/
structure HV.Fine (x : HV) : Prop where
  ok : x.Ok
  y : ¬ yrs x.age = 3600
  t : 0 ≤ x.typ ∧ x.typ < 256
  i : 0 ≤ x.id ∧ x.id < 4294967296
  v : 0 ≤ x.adv ∧ x.adv < 4294967296
set_option maxHeartbeats 1000000 in
theorem young1_no (w : World) (x : HV) (ok : x.Ok) (hy : ¬ yrs x.age = 3600) : Calls Try.prog 62 #[.agg #[.int .u16 x.age, .int .u8 x.opts, .int .u8 x.typ, .int .u32 x.id, .int .u32 x.adv, .int .i32 x.seq, .int .u16 x.sum, .int .u16 x.len]] w fun e w' => e = .returned (.bool false) ∧ Touch (fun _ => False) w w' := by
  have HO := fun w => old_any x.age ok.a0 ok.a1 w
  rw [decide_eq_false hy] at HO
  go_enter Try.func62, Try.ntmps62
  go_wp2_with fail
  refine Calls.mono (HO _) ?_
  rintro e w1 ⟨rfl, rfl⟩
  go_wp2_with fail
  go_ret
  exact ⟨rfl, (Touch.refl _ _).alloc _⟩
set_option maxHeartbeats 2000000 in
theorem idx_young (w : World) (v : Value) (l : List HV) (hv : HeadsAt w v l) (hl : l.length ≤ 1000000) (ok : ∀ x ∈ l, x.Fine) : Calls Try.prog 72 #[v, .func (.func 62) #[] #[]] w fun e w' => e = .returned (.int .i64 (-1)) ∧ Touch (fun _ => False) w w' := by
  obtain ⟨aa, ca, rfl, hm⟩ := ValsAt.form hv
  have HA : Hid (HeadsAt w (.slice aa l.length ca) l) := hv
  have HOK : Hid (∀ x ∈ l, x.Fine) := ok
  clear hv hm ok
  go_enter Try.func72, Try.ntmps72
  go_wp2_with fail
  go_loopw [8] (fun i wr => ∃ k : Nat, k ≤ l.length ∧ i = .int .i64 k ∧ Touch (fun _ => False) w wr) (fun i _ => l.length - (intOf i).toNat)
  case atStart => exact ⟨0, Nat.zero_le _, rfl, Touch.refl _ _⟩
  case round =>
    obtain ⟨j, hk, rfl, t⟩ := hrel
    by_cases hlt : j < l.length
    · obtain ⟨x, hx⟩ : ∃ x, l[j]? = some x := ⟨l[j], by simp [hlt]⟩
      have HX := HOK.out x (List.mem_of_getElem? hx)
      obtain ⟨ga, oa, _, ea, -, -, za⟩ := ValsAt.cells (ValsAt.keep HA.out t) (by omega) (by omega)
      cases ea
      have pa : ∀ i u, i < 8 → x.cells[i]? = some u → wr.cell? ⟨ga, oa + (j * 8 + i), none⟩ = some u := fun i u hi hu => za (j * 8 + i) u (by rw [headsC_at l j i x hx hi]; exact hu)
      have q0 : wr.cell? ⟨ga, oa + j * 8, none⟩ = some (.int .u16 x.age) := pa 0 _ (by omega) rfl
      have q1 : wr.cell? ⟨ga, oa + j * 8 + 1, none⟩ = some (.int .u8 x.opts) := by rw [Nat.add_assoc]; exact pa 1 _ (by omega) rfl
      have q2 : wr.cell? ⟨ga, oa + j * 8 + 2, none⟩ = some (.int .u8 x.typ) := by rw [Nat.add_assoc]; exact pa 2 _ (by omega) rfl
      have q3 : wr.cell? ⟨ga, oa + j * 8 + 3, none⟩ = some (.int .u32 x.id) := by rw [Nat.add_assoc]; exact pa 3 _ (by omega) rfl
      have q4 : wr.cell? ⟨ga, oa + j * 8 + 4, none⟩ = some (.int .u32 x.adv) := by rw [Nat.add_assoc]; exact pa 4 _ (by omega) rfl
      have q5 : wr.cell? ⟨ga, oa + j * 8 + 5, none⟩ = some (.int .i32 x.seq) := by rw [Nat.add_assoc]; exact pa 5 _ (by omega) rfl
      have q6 : wr.cell? ⟨ga, oa + j * 8 + 6, none⟩ = some (.int .u16 x.sum) := by rw [Nat.add_assoc]; exact pa 6 _ (by omega) rfl
      have q7 : wr.cell? ⟨ga, oa + j * 8 + 7, none⟩ = some (.int .u16 x.len) := by rw [Nat.add_assoc]; exact pa 7 _ (by omega) rfl
      clear za pa
      have HP := young1_no wr x HX.ok HX.y
      have HT : Hid (Touch (fun _ => False) w wr) := t
      clear hx HA HOK HX t
      go_wp2_with (go_at_call 62; refine Calls.mono HP ?_; rintro e w1 ⟨rfl, t1⟩)
      go_roundw
      case rel => exact ⟨j + 1, by omega, by go_num, HT.out.trans t1⟩
      case measure => simp [intOf]; omega
    · have HT : Hid (Touch (fun _ => False) w wr) := t
      clear t
      go_wp2_with fail
      go_ret
      exact ⟨rfl, HT.out⟩
set_option maxHeartbeats 1000000 in
theorem delf_young (w : World) (v : Value) (l : List HV) (hv : HeadsAt w v l) (hl : l.length ≤ 1000000) (ok : ∀ x ∈ l, x.Fine) : Calls Try.prog 61 #[v, .func (.func 62) #[] #[]] w fun e w' => e = .returned v ∧ Touch (fun _ => False) w w' := by
  have H := idx_young w v l hv hl ok
  obtain ⟨aa, ca, rfl, hm⟩ := ValsAt.form hv
  clear hv hm ok
  go_enter Try.func61, Try.ntmps61
  go_wp2_with (go_at_call 72; refine Calls.mono H ?_; rintro e w1 ⟨rfl, t1⟩)
  go_ret
  exact ⟨rfl, t1⟩
set_option maxHeartbeats 1000000 in
theorem young_any (w : World) (v : Value) (l : List HV) (hv : HeadsAt w v l) (hl : l.length ≤ 1000000) (ok : ∀ x ∈ l, x.Fine) : Calls Try.prog 49 #[v] w fun e w' => ∃ u, e = .returned u ∧ VBuf 50 8 w w' u l.length (headsC l) := by
  have HC := clone_any v l w hv hl
  have hmf : ∀ (fn : Fn) (first cap : Array Value) (w : World), (Instr.makeFunc fn first cap).run Try.prog w = .ok (.func fn first cap) w := fun _ _ _ _ => rfl
  obtain ⟨aa, ca, rfl, hm⟩ := ValsAt.form hv
  clear hv hm
  go_enter Try.func49, Try.ntmps49
  go_wp2_with fail
  refine Calls.mono HC ?_
  rintro e w1 ⟨u, rfl, vb⟩
  have HD := delf_young w1 u l vb.vals hl ok
  have VB : Hid (VBuf 50 8 w w1 u l.length (headsC l)) := vb
  obtain ⟨ua, uc, rfl⟩ := vb.form
  clear vb HC ok
  go_wp2_with fail
  refine Calls.mono HD ?_
  rintro e w2 ⟨rfl, t2⟩
  clear HD
  go_wp2_with fail
  go_ret
  exact ⟨_, rfl, VB.out.keep t2⟩
theorem key_any {a b c : Int} (ha : 0 ≤ a ∧ a < 256) (hb : 0 ≤ b ∧ b < 4294967296) (hc : 0 ≤ c ∧ c < 4294967296) : ∃ l, Go.keyOf Try.prog 47 (.agg #[.int .u8 a, .int .u32 b, .int .u32 c]) = some l := by
  have h1 : (Lit.int .u8 a).wf = true := by simp [Lit.wf, IntKind.min, IntKind.max, IntKind.bits, IntKind.signed]; omega
  have h2 : (Lit.int .u32 b).wf = true := by simp [Lit.wf, IntKind.min, IntKind.max, IntKind.bits, IntKind.signed]; omega
  have h3 : (Lit.int .u32 c).wf = true := by simp [Lit.wf, IntKind.min, IntKind.max, IntKind.bits, IntKind.signed]; omega
  have hc3 : Try.prog.cellsOf 47 = 3 := by kernel_rfl
  have c8 : Try.prog.cellsOf 5 = 1 := by kernel_rfl
  have c32 : Try.prog.cellsOf 24 = 1 := by kernel_rfl
  have hkt : Try.prog.keyType 47 = true := by kernel_rfl
  have hpos : 0 < Try.prog.types.size := of_decide_eq_true (by kernel_rfl)
  obtain ⟨d, hd⟩ : ∃ d, Try.prog.types.size = d + 1 := ⟨Try.prog.types.size - 1, by omega⟩
  have hf : (Value.agg #[.int .u8 a, .int .u32 b, .int .u32 c]).formed Try.prog 47 = true := by simp [Value.formed, Try.underlying47, hc3]
  have hL : ∃ L, Try.prog.keyLits (d + 1 + 1) 47 [.int .u8 a, .int .u32 b, .int .u32 c] = some L := by
    simp [Program.keyLits, Try.underlying47, hc3, c8, c32, Try.underlying5, Try.underlying24, h1, h2, h3]
  obtain ⟨L, hL⟩ := hL
  refine ⟨.string (keyBytes L), ?_⟩
  unfold Go.keyOf
  simp only [Try.underlying47, hkt, hf, Bool.and_self, if_true, hd]
  rw [show (Value.agg #[.int .u8 a, .int .u32 b, .int .u32 c]).cells.toList = [.int .u8 a, .int .u32 b, .int .u32 c] from rfl, hL]
  rfl
/-- A map whose keys are all keys. -/
def MapK (w : World) (m : Nat) : Prop := ∃ es c, w.heap[m]? = some (.map es c) ∧ ∀ e ∈ es.toList, ∃ l, Go.keyOf Try.prog 47 e.key = some l
theorem MapK.new (w : World) (c : Nat) : MapK (w.alloc (.map #[] c)) w.heap.size := ⟨#[], c, heap_new _ _, by simp⟩
theorem MapK.keep {w w' : World} {m : Nat} (h : MapK w m) (t : Touch (fun _ => False) w w') : MapK w' m := by
  obtain ⟨es, c, h1, h2⟩ := h
  exact ⟨es, c, t.heapN h1, h2⟩
theorem mput_any {w : World} {m : Nat} (h : MapK w m) {a b c : Int} (ha : 0 ≤ a ∧ a < 256) (hb : 0 ≤ b ∧ b < 4294967296) (hc : 0 ≤ c ∧ c < 4294967296) (v : Value) : ∃ w', (Instr.mapUpdate 64 (.map (some m)) (.agg #[.int .u8 a, .int .u32 b, .int .u32 c]) v).run Try.prog w = .ok () w' ∧ MapK w' m ∧ Touch (fun k => k = m) w w' := by
  obtain ⟨es, n, hb', hes⟩ := h
  obtain ⟨l, hk⟩ := key_any ha hb hc
  generalize (Value.agg #[.int .u8 a, .int .u32 b, .int .u32 c]) = kv at *
  rcases law47.find w hk es.toList hes with ⟨h1, -⟩ | ⟨j, e, h1, h2, h3⟩
  · refine ⟨setBlock w m (.map (es.push ⟨kv, v, n⟩) (n + 1)), ?_, ⟨_, _, block_set hb', ?_⟩, touch_block hb'⟩
    · simp [Instr.mapUpdate, run_underlying Try.underlying64, MapKept.run_getObj_map hb', law47.check w false hk, h1, MapKept.run_setObj_map _ hb', Result.andThen, setBlock]
    · intro e he
      simp only [Array.toList_push, List.mem_append, List.mem_singleton] at he
      rcases he with he | rfl
      · exact hes e he
      · exact ⟨l, hk⟩
  · have hj : es[j]? = some e := by simpa using h2
    refine ⟨setBlock w m (.map (es.modify j (fun e' => { e' with key := kv, val := v })) n), ?_, ⟨_, _, block_set hb', ?_⟩, touch_block hb'⟩
    · simp [Instr.mapUpdate, run_underlying Try.underlying64, MapKept.run_getObj_map hb', law47.check w false hk, h1, hj, h3, law47.stays w hk, MapKept.run_setObj_map _ hb', Result.andThen, setBlock]
    · intro e' he
      obtain ⟨i, hi⟩ := List.mem_iff_getElem?.1 he
      rw [Array.getElem?_toList, Array.getElem?_modify] at hi
      split at hi
      · cases hx : es[i]? with
        | none => rw [hx] at hi; simp at hi
        | some y => rw [hx] at hi; simp at hi; subst hi; exact ⟨l, hk⟩
      · exact hes e' (List.mem_of_getElem? (by rw [Array.getElem?_toList]; exact hi))
theorem keyOf_any (w : World) (x : HV) : Calls Try.prog 64 #[.agg #[.int .u16 x.age, .int .u8 x.opts, .int .u8 x.typ, .int .u32 x.id, .int .u32 x.adv, .int .i32 x.seq, .int .u16 x.sum, .int .u16 x.len]] w fun e w' => e = .returned (.agg #[.int .u8 x.typ, .int .u32 x.id, .int .u32 x.adv]) ∧ Touch (fun _ => False) w w' := by
  go_enter Try.func64, Try.ntmps64
  go_wp2_with fail
  refine bodyPost_ret (v := .agg #[.int .u8 x.typ, .int .u32 x.id, .int .u32 x.adv]) (by simp [results, Try.results64, go_sem]) rfl ⟨rfl, ?_⟩
  exact ((Touch.refl _ _).alloc _).alloc _
set_option maxHeartbeats 4000000 in
theorem byKey_any (w : World) (v : Value) (l : List HV) (hv : HeadsAt w v l) (hl : l.length ≤ 1000000) (ok : ∀ x ∈ l, x.Fine) : Calls Try.prog 54 #[v] w fun e w' => ∃ m, e = .returned (.map (some m)) ∧ Touch (fun _ => False) w w' := by
  obtain ⟨aa, ca, rfl, hm⟩ := ValsAt.form hv
  have hmm : ∀ w, (Instr.makeMap 64 (some (.int .i64 (l.length : Int)))).run Try.prog w = .ok (.map (some w.heap.size)) (w.alloc (.map #[] 0)) := fun _ => rfl
  have HA : Hid (HeadsAt w (.slice aa l.length ca) l) := hv
  have HOK : Hid (∀ x ∈ l, x.Fine) := ok
  clear hv hm ok
  go_enter Try.func54, Try.ntmps54
  go_wp2_with fail
  go_loopw [11] (fun i wr => ∃ k : Nat, k ≤ l.length ∧ i = .int .i64 k ∧ Touch (fun _ => False) w wr ∧ MapK wr w.heap.size) (fun i _ => l.length - (intOf i).toNat)
  case atStart => exact ⟨0, Nat.zero_le _, rfl, (Touch.refl _ _).alloc _, MapK.new w 0⟩
  case round =>
    obtain ⟨j, hk, rfl, t, mk⟩ := hrel
    have HT : Hid (Touch (fun _ => False) w wr) := t
    have HMK : Hid (MapK wr w.heap.size) := mk
    by_cases hlt : j < l.length
    · obtain ⟨x, hx⟩ : ∃ x, l[j]? = some x := ⟨l[j], by simp [hlt]⟩
      have HX := HOK.out x (List.mem_of_getElem? hx)
      obtain ⟨ga, oa, _, ea, -, -, za⟩ := ValsAt.cells (ValsAt.keep HA.out t) (by omega) (by omega)
      cases ea
      have pa : ∀ i u, i < 8 → x.cells[i]? = some u → wr.cell? ⟨ga, oa + (j * 8 + i), none⟩ = some u := fun i u hi hu => za (j * 8 + i) u (by rw [headsC_at l j i x hx hi]; exact hu)
      have q0 : wr.cell? ⟨ga, oa + j * 8, none⟩ = some (.int .u16 x.age) := pa 0 _ (by omega) rfl
      have q1 : wr.cell? ⟨ga, oa + j * 8 + 1, none⟩ = some (.int .u8 x.opts) := by rw [Nat.add_assoc]; exact pa 1 _ (by omega) rfl
      have q2 : wr.cell? ⟨ga, oa + j * 8 + 2, none⟩ = some (.int .u8 x.typ) := by rw [Nat.add_assoc]; exact pa 2 _ (by omega) rfl
      have q3 : wr.cell? ⟨ga, oa + j * 8 + 3, none⟩ = some (.int .u32 x.id) := by rw [Nat.add_assoc]; exact pa 3 _ (by omega) rfl
      have q4 : wr.cell? ⟨ga, oa + j * 8 + 4, none⟩ = some (.int .u32 x.adv) := by rw [Nat.add_assoc]; exact pa 4 _ (by omega) rfl
      have q5 : wr.cell? ⟨ga, oa + j * 8 + 5, none⟩ = some (.int .i32 x.seq) := by rw [Nat.add_assoc]; exact pa 5 _ (by omega) rfl
      have q6 : wr.cell? ⟨ga, oa + j * 8 + 6, none⟩ = some (.int .u16 x.sum) := by rw [Nat.add_assoc]; exact pa 6 _ (by omega) rfl
      have q7 : wr.cell? ⟨ga, oa + j * 8 + 7, none⟩ = some (.int .u16 x.len) := by rw [Nat.add_assoc]; exact pa 7 _ (by omega) rfl
      clear za pa
      have HKO := fun w => keyOf_any w x
      clear hx HA HOK t mk hmm
      go_wp2_with fail
      have R0 : Row (wr.alloc (.cells #[.int .u16 x.age, .int .u8 x.opts, .int .u8 x.typ, .int .u32 x.id, .int .u32 x.adv, .int .i32 x.seq, .int .u16 x.sum, .int .u16 x.len] 50)) wr.heap.size 50 [.int .u16 x.age, .int .u8 x.opts, .int .u8 x.typ, .int .u32 x.id, .int .u32 x.adv, .int .i32 x.seq, .int .u16 x.sum, .int .u16 x.len] := row_new _ _ _
      have T0 : Touch (fun _ => False) wr (wr.alloc (.cells #[.int .u16 x.age, .int .u8 x.opts, .int .u8 x.typ, .int .u32 x.id, .int .u32 x.adv, .int .i32 x.seq, .int .u16 x.sum, .int .u16 x.len] 50)).drew := ((Touch.refl _ _).alloc _).drew
      have hlx : w.heap.size < wr.heap.size := by obtain ⟨_, _, hh, _⟩ := HMK.out; exact lt_of_heap hh
      have RD : Row (wr.alloc (.cells #[.int .u16 x.age, .int .u8 x.opts, .int .u8 x.typ, .int .u32 x.id, .int .u32 x.adv, .int .i32 x.seq, .int .u16 x.sum, .int .u16 x.len] 50)).drew wr.heap.size 50 [.int .u16 x.age, .int .u8 x.opts, .int .u8 x.typ, .int .u32 x.id, .int .u32 x.adv, .int .i32 x.seq, .int .u16 x.sum, .int .u16 x.len] := R0.keep ((Touch.refl _ _).drew)
      refine wp_region_held_drew (S := fun w' => Row w' wr.heap.size 50 [.int .u16 x.age, .int .u8 x.opts, .int .u8 x.typ, .int .u32 x.id, .int .u32 x.adv, .int .i32 x.seq, .int .u16 x.sum, .int .u16 x.len]) (by kernel_rfl) RD (fun hHeld => ?_)
      refine wpAnyH_take (i := 0) (oi := ⟨some 15, _, _, _, _, _⟩) (v := .map (some w.heap.size)) rfl (by kernel_rfl) (by kernel_rfl) (by kernel_rfl) (fun _ _ _ h => h) (Or.inl ⟨by rfl, fun w hw => by go_simp⟩) (by assumption) ?_
      simp only [Act.put, List.setIfInBounds_toArray, List.set_cons_zero, List.set_cons_succ]
      refine wpAnyH_take (i := 1) (oi := ⟨some 16, _, _, _, _, _⟩) (v := .agg #[.int .u16 x.age, .int .u8 x.opts, .int .u8 x.typ, .int .u32 x.id, .int .u32 x.adv, .int .i32 x.seq, .int .u16 x.sum, .int .u16 x.len]) rfl (by kernel_rfl) (by kernel_rfl) (by kernel_rfl) (fun _ _ _ h => h) (yieldsIf_load_mid (by rfl) _ _ rfl _ _ rfl [.int .u16 x.age, .int .u8 x.opts, .int .u8 x.typ, .int .u32 x.id, .int .u32 x.adv, .int .i32 x.seq, .int .u16 x.sum, .int .u16 x.len] _ (fun w h => row_range h) Try.underlying50 rfl (by kernel_rfl)) (by assumption) ?_
      simp only [Act.put, List.setIfInBounds_toArray, List.set_cons_zero, List.set_cons_succ]
      refine wpAnyH_take (i := 3) (oi := ⟨some 18, _, _, _, _, _⟩) (v := .agg #[.int .u16 x.age, .int .u8 x.opts, .int .u8 x.typ, .int .u32 x.id, .int .u32 x.adv, .int .i32 x.seq, .int .u16 x.sum, .int .u16 x.len]) rfl (by kernel_rfl) (by kernel_rfl) (by kernel_rfl) (fun _ _ _ h => h) (yieldsIf_load_mid (by rfl) _ _ rfl _ _ rfl [.int .u16 x.age, .int .u8 x.opts, .int .u8 x.typ, .int .u32 x.id, .int .u32 x.adv, .int .i32 x.seq, .int .u16 x.sum, .int .u16 x.len] _ (fun w h => row_range h) Try.underlying50 rfl (by kernel_rfl)) (by assumption) ?_
      simp only [Act.put, List.setIfInBounds_toArray, List.set_cons_zero, List.set_cons_succ]
      refine wpAnyH_ready (rs := [2]) (by kernel_rfl) (by simp) ?_
      refine AllReadyH.cons (o := ⟨some 17, _, _, _, _, _⟩) rfl (fun K hK => ?_) AllReadyH.nil
      go_simp
      refine Calls.mono (HKO _) ?_
      rintro e wx ⟨rfl, tx⟩
      refine hK.out _ _ (RD.keep tx) (fun hHeld => ?_)
      clear hK K
      refine wpAnyH_ready (rs := [4]) (by kernel_rfl) (by simp) ?_
      refine AllReadyH.cons rfl (fun K hK => ?_) AllReadyH.nil
      obtain ⟨wm, hput, mk, tm⟩ := mput_any (HMK.out.keep (T0.trans tx)) HX.t HX.i HX.v (.agg #[.int .u16 x.age, .int .u8 x.opts, .int .u8 x.typ, .int .u32 x.id, .int .u32 x.adv, .int .i32 x.seq, .int .u16 x.sum, .int .u16 x.len])
      have TM : Hid (Touch (fun k => k = w.heap.size) (wr.alloc (.cells #[.int .u16 x.age, .int .u8 x.opts, .int .u8 x.typ, .int .u32 x.id, .int .u32 x.adv, .int .i32 x.seq, .int .u16 x.sum, .int .u16 x.len] 50)).drew wm) := (tx.mono (fun _ _ f => f.elim)).trans tm
      have MKN : Hid (MapK wm w.heap.size) := mk
      go_simp
      refine hK.out _ _ ((tm.block wr.heap.size (RD.keep tx).lt (fun e => by omega)).trans (RD.keep tx)) (fun hHeld => ?_)
      clear hK K hput
      refine wpAnyH_done (by kernel_rfl) ?_ _
      go_wp2_with fail
      go_roundw
      case rel => exact ⟨j + 1, by omega, by go_num, HT.out.trans' ((T0.mono (fun _ _ f => f.elim)).trans TM.out) (fun i hi e => by omega), MKN.out⟩
      case measure => simp [intOf]; omega
    · clear t mk hmm
      go_wp2_with fail
      go_ret
      exact ⟨_, rfl, HT.out⟩
end Go.Proofs.Ytojlnabhaglejaa
