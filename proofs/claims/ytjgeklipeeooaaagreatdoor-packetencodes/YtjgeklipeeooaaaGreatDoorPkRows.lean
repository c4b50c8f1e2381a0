/- EqState where both are the same. -/
import Derived.Test.YtjgeklipeeooaaaGreatDoorStRd2
import Derived.Test.YtjgeklipeeooaaaGreatDoorPkIt12
import Derived.Test.YtjgeklipeeooaaaGreatDoorPkRu
import Derived.Test.YtjgeklipeeooaaaGreatDoorStRead2
import Derived.Stop.BytesEq
import Derived.Deep.QuietTactic
import Derived.Test.YtjgeklipeeooaaaGreatDoorOwnUn
import Derived.Test.YtjgeklipeeooaaaGreatDoorStRead3
import Derived.Deep.MidRow
namespace Go.Proofs.YtjgeklipeeooaaaGreatDoor
open Go.RowKit
set_option linter.unusedVariables false
set_option maxRecDepth 100000

/-- Two states that are the same. -/
theorem estate_true (h : HV) (va vb : Value) (rs : List Int) (w : World) (ha : RowAt w va rs) (hb : ArgAt w vb rs) : Calls Tryz.prog 106 #[h.sv va, h.sv vb] w fun e w' => e = .returned (.bool true) ∧ Touch (fun _ => False) w w' := by
  obtain ⟨aa, ca, rfl, _⟩ := rowAt_form ha
  obtain ⟨ab, cb, rfl, _⟩ := hb.form
  have HE := fun w ha hb => eq_true (.slice aa rs.length ca) (.slice ab rs.length cb) rs w ha hb
  have HA : Hid (RowAt w (.slice aa rs.length ca) rs) := ha
  have HB : Hid (ArgAt w (.slice ab rs.length cb) rs) := hb
  clear ha hb
  show Calls Tryz.prog 106 #[.agg #[.int .u16 h.age, .int .u8 h.opts, .int .u8 h.typ, .int .u32 h.id, .int .u32 h.adv, .int .i32 h.seq, .int .u16 h.sum, .int .u16 h.len, .slice aa rs.length ca], .agg #[.int .u16 h.age, .int .u8 h.opts, .int .u8 h.typ, .int .u32 h.id, .int .u32 h.adv, .int .i32 h.seq, .int .u16 h.sum, .int .u16 h.len, .slice ab rs.length cb]] w _
  go_enter Tryz.func106, Tryz.ntmps106
  go_wp2_with fail
  refine Calls.mono (HE _ (HA.out.touch (((Touch.refl (fun _ => False) w).alloc _).alloc _) (fun _ _ h => h)) (HB.out.keepN (((Touch.refl _ w).alloc _).alloc _))) ?_
  rintro e w1 ⟨rfl, nd, rfl⟩
  go_wp2
  go_ret
  exact ⟨rfl, (((Touch.refl _ w).alloc _).alloc _).drewN nd⟩
end Go.Proofs.YtjgeklipeeooaaaGreatDoor

namespace Go.Proofs.YtjgeklipeeooaaaGreatDoor
open Go.RowKit
set_option linter.unusedVariables false
set_option maxRecDepth 100000

section
variable {ops : Array Oper} {rest : List Oper} {o : Oper} {a : Act} {Q : Exit → Act → World → Prop} {w : World}
end
theorem cells_ofI {l : List Int} (h : ∀ x ∈ l, 0 ≤ x ∧ x < 256) : bytesOf l = (l.map fun x => UInt8.ofNat x.toNat).map Extern.Stop.cell := by
  unfold bytesOf
  rw [List.map_map]
  apply List.map_congr_left
  intro x hx
  have := h x hx
  simp [Extern.Stop.cell]
  omega
/-- Eight bytes and the same: equal. -/
theorem eq8 (l : List Int) (h : ∀ x ∈ l, 0 ≤ x ∧ x < 256) (hl : l.length = 8) (d : Nat) (w : World) :
    (Op.equalIn (d + 2) 34 (.agg (bytesOf l).toArray) (.agg (bytesOf l).toArray)).run Tryz.prog w = .ok true w := by
  obtain ⟨i0, hi, hz0, hz1, hz2⟩ := info_parts Tryz.info5w
  rw [cells_ofI h]
  have := run_equalIn_bytes (P := Tryz.prog) w d 34 5 8 Tryz.underlying34 Tryz.underlying5 (by intro w; simp [sizeOf, typeInfo, hi, hz1]) (l.map fun x => UInt8.ofNat x.toNat) (l.map fun x => UInt8.ofNat x.toNat) (by simp [hl]) (by simp [hl])
  simpa using this
set_option maxHeartbeats 1000000 in
theorem ewordsP (va vb : Value) (l : List Int) (w : World) (ha : WordsAt w va l) (hb : WordsAt w vb l) :
    Calls Tryz.prog 105 #[va, vb] w fun e w' => e = .returned (.bool true) ∧ ∃ n, w' = w.drewN n := by
  obtain ⟨aa, ca, rfl, hm⟩ := ValsAt.form ha
  obtain ⟨ab, cb, rfl, _⟩ := ValsAt.form hb
  unfold maxLen at hm
  have HA : Hid (WordsAt w (.slice aa l.length ca) l) := ha
  have HB : Hid (WordsAt w (.slice ab l.length cb) l) := hb
  clear ha hb
  go_enter Tryz.func105, Tryz.ntmps105
  go_wp2
  go_loopw [5] (fun i wr => ∃ k nd : Nat, k ≤ l.length ∧ i = .int .i64 k ∧ wr = w.drewN nd) (fun i _ => l.length - (intOf i).toNat)
  case atStart => exact ⟨0, 0, Nat.zero_le _, rfl, rfl⟩
  case round =>
    obtain ⟨j, nd, hk, rfl, rfl⟩ := hrel
    by_cases hlt : j < l.length
    · obtain ⟨x, hx⟩ : ∃ x, l[j]? = some x := ⟨l[j], by simp [hlt]⟩
      obtain ⟨ga, oa, _, ea, -, -, za⟩ := ValsAt.cells HA.out (by omega) (by omega)
      obtain ⟨gb, ob, _, eb, -, -, zb⟩ := ValsAt.cells HB.out (by omega) (by omega)
      cases ea
      cases eb
      have pa : ∀ (i : Nat) u, i < 1 → [Value.int .u32 x][i]? = some u → w.cell? ⟨ga, oa + j, none⟩ = some u := fun i u hi hu => za j u (by have hi0 : i = 0 := (by omega); subst hi0; simpa [wordsC, hx] using hu)
      have pb : ∀ (i : Nat) u, i < 1 → [Value.int .u32 x][i]? = some u → w.cell? ⟨gb, ob + j, none⟩ = some u := fun i u hi hu => zb j u (by have hi0 : i = 0 := (by omega); subst hi0; simpa [wordsC, hx] using hu)
      have ha0 : w.cell? ⟨ga, oa + j, none⟩ = some (.int .u32 x) := pa 0 _ (by omega) rfl
      have hb0 : w.cell? ⟨gb, ob + j, none⟩ = some (.int .u32 x) := pb 0 _ (by omega) rfl
      clear za zb pa pb hx HA HB
      go_wp2
      go_quiet (fail)
      go_wp2
      go_roundw
      case rel => exact ⟨j + 1, _, by omega, by go_num, rfl⟩
      case measure => simp [intOf]; omega
    · go_wp2
      go_ret
      exact ⟨rfl, nd, rfl⟩
set_option maxHeartbeats 1000000 in
theorem eheadsP (va vb : Value) (l : List HV) (w : World) (ha : HeadsAt w va l) (hb : HeadsAt w vb l) :
    Calls Tryz.prog 46 #[va, vb] w fun e w' => e = .returned (.bool true) ∧ ∃ n, w' = w.drewN n := by
  obtain ⟨aa, ca, rfl, hm⟩ := ValsAt.form ha
  obtain ⟨ab, cb, rfl, _⟩ := ValsAt.form hb
  unfold maxLen at hm
  have HA : Hid (HeadsAt w (.slice aa l.length ca) l) := ha
  have HB : Hid (HeadsAt w (.slice ab l.length cb) l) := hb
  clear ha hb
  go_enter Tryz.func46, Tryz.ntmps46
  go_wp2
  go_loopw [5] (fun i wr => ∃ k nd : Nat, k ≤ l.length ∧ i = .int .i64 k ∧ wr = w.drewN nd) (fun i _ => l.length - (intOf i).toNat)
  case atStart => exact ⟨0, 0, Nat.zero_le _, rfl, rfl⟩
  case round =>
    obtain ⟨j, nd, hk, rfl, rfl⟩ := hrel
    by_cases hlt : j < l.length
    · obtain ⟨x, hx⟩ : ∃ x, l[j]? = some x := ⟨l[j], by simp [hlt]⟩
      obtain ⟨ga, oa, _, ea, -, -, za⟩ := ValsAt.cells HA.out (by omega) (by omega)
      obtain ⟨gb, ob, _, eb, -, -, zb⟩ := ValsAt.cells HB.out (by omega) (by omega)
      cases ea
      cases eb
      have pa : ∀ i u, i < 8 → x.cells[i]? = some u → w.cell? ⟨ga, oa + (j * 8 + i), none⟩ = some u := fun i u hi hu => za (j * 8 + i) u (by rw [headsC_at l j i x hx hi]; exact hu)
      have pb : ∀ i u, i < 8 → x.cells[i]? = some u → w.cell? ⟨gb, ob + (j * 8 + i), none⟩ = some u := fun i u hi hu => zb (j * 8 + i) u (by rw [headsC_at l j i x hx hi]; exact hu)
      have ha0 : w.cell? ⟨ga, oa + j * 8, none⟩ = some (.int .u16 x.age) := pa 0 _ (by omega) rfl
      have ha1 : w.cell? ⟨ga, oa + j * 8 + 1, none⟩ = some (.int .u8 x.opts) := by rw [Nat.add_assoc]; exact pa 1 _ (by omega) rfl
      have ha2 : w.cell? ⟨ga, oa + j * 8 + 2, none⟩ = some (.int .u8 x.typ) := by rw [Nat.add_assoc]; exact pa 2 _ (by omega) rfl
      have ha3 : w.cell? ⟨ga, oa + j * 8 + 3, none⟩ = some (.int .u32 x.id) := by rw [Nat.add_assoc]; exact pa 3 _ (by omega) rfl
      have ha4 : w.cell? ⟨ga, oa + j * 8 + 4, none⟩ = some (.int .u32 x.adv) := by rw [Nat.add_assoc]; exact pa 4 _ (by omega) rfl
      have ha5 : w.cell? ⟨ga, oa + j * 8 + 5, none⟩ = some (.int .i32 x.seq) := by rw [Nat.add_assoc]; exact pa 5 _ (by omega) rfl
      have ha6 : w.cell? ⟨ga, oa + j * 8 + 6, none⟩ = some (.int .u16 x.sum) := by rw [Nat.add_assoc]; exact pa 6 _ (by omega) rfl
      have ha7 : w.cell? ⟨ga, oa + j * 8 + 7, none⟩ = some (.int .u16 x.len) := by rw [Nat.add_assoc]; exact pa 7 _ (by omega) rfl
      have hb0 : w.cell? ⟨gb, ob + j * 8, none⟩ = some (.int .u16 x.age) := pb 0 _ (by omega) rfl
      have hb1 : w.cell? ⟨gb, ob + j * 8 + 1, none⟩ = some (.int .u8 x.opts) := by rw [Nat.add_assoc]; exact pb 1 _ (by omega) rfl
      have hb2 : w.cell? ⟨gb, ob + j * 8 + 2, none⟩ = some (.int .u8 x.typ) := by rw [Nat.add_assoc]; exact pb 2 _ (by omega) rfl
      have hb3 : w.cell? ⟨gb, ob + j * 8 + 3, none⟩ = some (.int .u32 x.id) := by rw [Nat.add_assoc]; exact pb 3 _ (by omega) rfl
      have hb4 : w.cell? ⟨gb, ob + j * 8 + 4, none⟩ = some (.int .u32 x.adv) := by rw [Nat.add_assoc]; exact pb 4 _ (by omega) rfl
      have hb5 : w.cell? ⟨gb, ob + j * 8 + 5, none⟩ = some (.int .i32 x.seq) := by rw [Nat.add_assoc]; exact pb 5 _ (by omega) rfl
      have hb6 : w.cell? ⟨gb, ob + j * 8 + 6, none⟩ = some (.int .u16 x.sum) := by rw [Nat.add_assoc]; exact pb 6 _ (by omega) rfl
      have hb7 : w.cell? ⟨gb, ob + j * 8 + 7, none⟩ = some (.int .u16 x.len) := by rw [Nat.add_assoc]; exact pb 7 _ (by omega) rfl
      clear za zb pa pb hx HA HB
      go_wp2
      go_quiet (fail)
      go_wp2
      go_roundw
      case rel => exact ⟨j + 1, _, by omega, by go_num, rfl⟩
      case measure => simp [intOf]; omega
    · go_wp2
      go_ret
      exact ⟨rfl, nd, rfl⟩
set_option maxHeartbeats 1000000 in
theorem ekeysP (va vb : Value) (l : List KV) (w : World) (ha : KeysAt w va l) (hb : KeysAt w vb l) :
    Calls Tryz.prog 44 #[va, vb] w fun e w' => e = .returned (.bool true) ∧ ∃ n, w' = w.drewN n := by
  obtain ⟨aa, ca, rfl, hm⟩ := ValsAt.form ha
  obtain ⟨ab, cb, rfl, _⟩ := ValsAt.form hb
  unfold maxLen at hm
  have HA : Hid (KeysAt w (.slice aa l.length ca) l) := ha
  have HB : Hid (KeysAt w (.slice ab l.length cb) l) := hb
  clear ha hb
  go_enter Tryz.func44, Tryz.ntmps44
  go_wp2
  go_loopw [5] (fun i wr => ∃ k nd : Nat, k ≤ l.length ∧ i = .int .i64 k ∧ wr = w.drewN nd) (fun i _ => l.length - (intOf i).toNat)
  case atStart => exact ⟨0, 0, Nat.zero_le _, rfl, rfl⟩
  case round =>
    obtain ⟨j, nd, hk, rfl, rfl⟩ := hrel
    by_cases hlt : j < l.length
    · obtain ⟨x, hx⟩ : ∃ x, l[j]? = some x := ⟨l[j], by simp [hlt]⟩
      obtain ⟨ga, oa, _, ea, -, -, za⟩ := ValsAt.cells HA.out (by omega) (by omega)
      obtain ⟨gb, ob, _, eb, -, -, zb⟩ := ValsAt.cells HB.out (by omega) (by omega)
      cases ea
      cases eb
      have pa : ∀ i u, i < 3 → x.cells[i]? = some u → w.cell? ⟨ga, oa + (j * 3 + i), none⟩ = some u := fun i u hi hu => za (j * 3 + i) u (by rw [keysC_at l j i x hx hi]; exact hu)
      have pb : ∀ i u, i < 3 → x.cells[i]? = some u → w.cell? ⟨gb, ob + (j * 3 + i), none⟩ = some u := fun i u hi hu => zb (j * 3 + i) u (by rw [keysC_at l j i x hx hi]; exact hu)
      have ha0 : w.cell? ⟨ga, oa + j * 3, none⟩ = some (.int .u8 x.typ) := pa 0 _ (by omega) rfl
      have ha1 : w.cell? ⟨ga, oa + j * 3 + 1, none⟩ = some (.int .u32 x.id) := by rw [Nat.add_assoc]; exact pa 1 _ (by omega) rfl
      have ha2 : w.cell? ⟨ga, oa + j * 3 + 2, none⟩ = some (.int .u32 x.adv) := by rw [Nat.add_assoc]; exact pa 2 _ (by omega) rfl
      have hb0 : w.cell? ⟨gb, ob + j * 3, none⟩ = some (.int .u8 x.typ) := pb 0 _ (by omega) rfl
      have hb1 : w.cell? ⟨gb, ob + j * 3 + 1, none⟩ = some (.int .u32 x.id) := by rw [Nat.add_assoc]; exact pb 1 _ (by omega) rfl
      have hb2 : w.cell? ⟨gb, ob + j * 3 + 2, none⟩ = some (.int .u32 x.adv) := by rw [Nat.add_assoc]; exact pb 2 _ (by omega) rfl
      clear za zb pa pb hx HA HB
      go_wp2
      go_quiet (fail)
      go_wp2
      go_roundw
      case rel => exact ⟨j + 1, _, by omega, by go_num, rfl⟩
      case measure => simp [intOf]; omega
    · go_wp2
      go_ret
      exact ⟨rfl, nd, rfl⟩
end Go.Proofs.YtjgeklipeeooaaaGreatDoor

namespace Go.Proofs.YtjgeklipeeooaaaGreatDoor
open Go.RowKit
set_option linter.unusedVariables false
set_option maxRecDepth 100000

theorem Row.touch {F : Nat → Prop} {w w' : World} {g : Nat} {T : TypeId} {xs : List Value} (h : Row w g T xs) (t : Touch F w w') (hg : ¬ F g) : Row w' g T xs := (t.block g h.lt hg).trans h
theorem Row.otherRow {w : World} {g g' : Nat} {T : TypeId} {xs : List Value} (h : Row w g T xs) (hne : ¬ g = g') (cs : Array Value) : Row (w.setRow g' cs) g T xs := (setRow_other w g' g cs hne).trans h
theorem Row.range {w : World} {g : Nat} {T : TypeId} {xs : List Value} (h : Row w g T xs) : w.rangeAt g 0 xs := fun j v hj => by
  rw [Nat.zero_add, h.cell j]
  exact hj
theorem Row.pd {w : World} {g : Nat} {T : TypeId} {P : PV} {vn vd vk vs vh : Value} (h : Row w g T [.int .u8 P.typ, .int .u32 P.router, .int .u32 P.area, .int .u32 P.mask, .int .u16 P.iv, .int .u8 P.opts, .int .u8 P.prio, .int .u32 P.dead, .int .u32 P.dr, .int .u32 P.bdr, vn, .int .u16 P.mtu, .int .u8 P.dopts, .int .u8 P.dflags, .int .u32 P.dseq, vd, vk, vs, vh]) : Pd w g P vn vd vk vs vh := ⟨h.cell 0, h.cell 1, h.cell 2, h.cell 3, h.cell 4, h.cell 5, h.cell 6, h.cell 7, h.cell 8, h.cell 9, h.cell 10, h.cell 11, h.cell 12, h.cell 13, h.cell 14, h.cell 15, h.cell 16, h.cell 17, h.cell 18⟩
theorem Row.ad {w : World} {g : Nat} {T : TypeId} {A : AuV} (h : Row w g T [.int .u16 A.kind, .int .u8 A.d0, .int .u8 A.d1, .int .u8 A.d2, .int .u8 A.d3, .int .u8 A.d4, .int .u8 A.d5, .int .u8 A.d6, .int .u8 A.d7]) : Ad w g A := ⟨h.cell 0, h.cell 1, h.cell 2, h.cell 3, h.cell 4, h.cell 5, h.cell 6, h.cell 7, h.cell 8⟩
theorem Row.room {w : World} {g : Nat} {T : TypeId} {xs : List Value} (h : Row w g T xs) : Room w g xs.length := fun i hi => ⟨xs[i], by rw [h.cell i]; simp [hi], h.frozen i⟩
/-- A store of a whole row, in a region that draws its order. -/
theorem step_row {P : Program} {ops : Array Oper} {o : Oper} {a : Act} {w : World} {K : Act → World → Prop} {Q : Exit → Act → World → Prop} {E : Prop} (hgd : o.guard = none) (ty : TypeId) (x y : Operand) (ho : o.op = .store ty x y)
    (g : Nat) (cells : List Value) (hx : a.eval x = .pointer (some ⟨g, 0, none⟩)) (hy : a.eval y = .agg cells.toArray) (T : TypeId) (old : List Value) (hg : Row w g T old) (hi : (P.info? ty).map (·.size) = some cells.length) (hold : old.length = cells.length) (h1 : ∀ v ∈ cells, v.oneCell' = true)
    (h : K (a.put o.dst undef) (w.setRow g cells.toArray)) : if Region.wanted o (yielded ops a.tmps) = true then Oper.wp P o a w K Q else E := by
  have hw : Region.wanted o (yielded ops a.tmps) = true := by simp [Region.wanted, hgd]
  rw [if_pos hw]
  exact wp_store_row ty x y ho g cells.toArray hx hy T old.toArray hg (by rw [hi]; simp) (by simpa using hold) (all_oneCell h1) h
/-- Two results that are rows. -/
theorem results_two {P : Program} {fn : Func} {p q : Tmp} {ty tq : TypeId} (h : fn.results = #[.cell p ty, .cell q tq]) (tmps : Array Value) (w : World) (g g' : Nat) (t t' : TypeId) (cs cs' : List Value) (d d' : TypeDesc)
    (hp : tmps.getD p undef = .pointer (some ⟨g, 0, none⟩)) (hq : tmps.getD q undef = .pointer (some ⟨g', 0, none⟩)) (hg : Row w g t cs) (hg' : Row w g' t' cs')
    (hu : P.underlying ty = some d) (hd : (match d with | .struct _ | .array _ _ => true | _ => false) = true) (hi : (P.info? ty).map (·.size) = some cs.length)
    (hu' : P.underlying tq = some d') (hd' : (match d' with | .struct _ | .array _ _ => true | _ => false) = true) (hi' : (P.info? tq).map (·.size) = some cs'.length) :
    (results fn tmps).run P w = .ok (.tuple #[.agg cs.toArray, .agg cs'.toArray]) w := by
  have hp' : tmps[p]?.getD undef = .pointer (some ⟨g, 0, none⟩) := by simpa using hp
  have hq' : tmps[q]?.getD undef = .pointer (some ⟨g', 0, none⟩) := by simpa using hq
  simp [results, h, hp', hq', asAddr, run_loadVar_row w g t ty cs.toArray (0, 0) d hg hu hd (by simpa using hi), run_loadVar_row w g' t' tq cs'.toArray (0, 0) d' hg' hu' hd' (by simpa using hi')]
/-- Three: two rows and a slot. -/
theorem results_three {P : Program} {fn : Func} {p q s : Tmp} {ty tq : TypeId} (h : fn.results = #[.cell p ty, .cell q tq, .tmp s]) (tmps : Array Value) (w : World) (g g' : Nat) (t t' : TypeId) (cs cs' : List Value) (d d' : TypeDesc) (v : Value)
    (hp : tmps.getD p undef = .pointer (some ⟨g, 0, none⟩)) (hq : tmps.getD q undef = .pointer (some ⟨g', 0, none⟩)) (hs : tmps.getD s undef = v) (hg : Row w g t cs) (hg' : Row w g' t' cs')
    (hu : P.underlying ty = some d) (hd : (match d with | .struct _ | .array _ _ => true | _ => false) = true) (hi : (P.info? ty).map (·.size) = some cs.length)
    (hu' : P.underlying tq = some d') (hd' : (match d' with | .struct _ | .array _ _ => true | _ => false) = true) (hi' : (P.info? tq).map (·.size) = some cs'.length) :
    (results fn tmps).run P w = .ok (.tuple #[.agg cs.toArray, .agg cs'.toArray, v]) w := by
  have hp' : tmps[p]?.getD undef = .pointer (some ⟨g, 0, none⟩) := by simpa using hp
  have hq' : tmps[q]?.getD undef = .pointer (some ⟨g', 0, none⟩) := by simpa using hq
  have hs' : tmps[s]?.getD undef = v := by simpa using hs
  simp [results, h, hp', hq', hs', asAddr, run_loadVar_row w g t ty cs.toArray (0, 0) d hg hu hd (by simpa using hi), run_loadVar_row w g' t' tq cs'.toArray (0, 0) d' hg' hu' hd' (by simpa using hi')]
end Go.Proofs.YtjgeklipeeooaaaGreatDoor
