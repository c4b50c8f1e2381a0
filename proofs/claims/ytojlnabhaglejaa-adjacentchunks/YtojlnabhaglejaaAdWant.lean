
/- What is wanted: one head. -/
import Derived.Test.YtojlnabhaglejaaAdMap
import Derived.Maps.AppendAt
import Derived.Deep.RegionLaw
import Derived.Deep.DeepCutAuto
namespace Go.Proofs.Ytojlnabhaglejaa
open Go.RowKit
set_option linter.unusedVariables false
set_option maxRecDepth 100000

open Go.ChangeMaps (setBlock)
theorem infoKey : (Try.prog.info? 47).map (fun i => (i.zero, i.size, i.bytes)) = some (some (.agg #[.int .u8 0, .int .u32 0, .int .u32 0]), 3, 12) := by kernel_rfl
theorem infoParts {x : Option TypeInfo} {z : Value} {k b : Nat} (h : x.map (fun i => (i.zero, i.size, i.bytes)) = some (some z, k, b)) : ∃ i, x = some i ∧ i.zero = some z ∧ i.size = k ∧ i.bytes = b := by
  cases x with
  | none => cases h
  | some i => simp at h; exact ⟨i, rfl, h.1, h.2.1, h.2.2⟩
theorem step_run_append {P : Program} {w : World} {ops : Array Oper} {o : Oper} {a : Act} {K : Act → World → Prop} {Q : Exit → Act → World → Prop} {E : Prop} (hgd : o.guard = none) (s x : Operand) (t : TypeId)
    (ho : o.op = .call { callee := .builtin .append, args := #[s, x], argTypes := #[t, t] }) (v y v' : Value) (w' : World) (hs : a.eval s = v) (hx : a.eval x = y)
    (hr : (Builtin.append_ #[t, t] o.type #[v, y]).run P w = .ok v' w') (h : K (a.put o.dst v') w') : if Region.wanted o (yielded ops a.tmps) = true then Oper.wp P o a w K Q else E := by
  have hw : Region.wanted o (yielded ops a.tmps) = true := by simp [Region.wanted, hgd]
  rw [if_pos hw]
  unfold Oper.wp execOp
  simp only [ho, resolve, invoke, builtin, Sem.run_bind, Sem.run_pure, Result.andThen_ok, List.map_toArray, List.map_cons, List.map_nil, hs, hx, hr]
  exact h
theorem own_shape {w : World} {base e k n : Nat} {v : Value} {xs : List Value} (h : w.ownsRow base e k v n xs) : ∃ a c, v = .slice a n c := by
  obtain ⟨h1, ⟨h2, h3⟩ | ⟨g, cap, cur, hv, _⟩⟩ := h
  · exact ⟨none, 0, by rw [h2, h3]⟩
  · exact ⟨_, _, hv⟩
theorem keyOf_one (w : World) : Calls Try.prog 64 #[.agg #[.int .u16 0, .int .u8 0, .int .u8 1, .int .u32 2, .int .u32 2, .int .i32 (-2147483647), .int .u16 0, .int .u16 0]] w fun e w' => e = .returned (.agg #[.int .u8 1, .int .u32 2, .int .u32 2]) ∧ Touch (fun _ => False) w w' := by
  go_enter Try.func64, Try.ntmps64
  go_wp2_with fail
  refine bodyPost_ret (v := .agg #[.int .u8 1, .int .u32 2, .int .u32 2]) (by simp [results, Try.results64, go_sem]) rfl ⟨rfl, ?_⟩
  exact ((Touch.refl _ _).alloc _).alloc _
/-- The keys that are wanted: the one. -/
def KR (base : Nat) (w : World) (v : Value) : Prop := w.ownsRow base 47 3 v 1 [.int .u8 1, .int .u32 2, .int .u32 2]
set_option maxHeartbeats 4000000 in
theorem add_one (w : World) (b m c : Nat) (x : AJ) (h : Ads w b x) (hw : x.wm = .map (some m)) (hk : x.keys = .slice none 0 0) (hm : w.heap[m]? = some (.map #[] c)) (hbm : b ≠ m) :
    Calls Try.prog 66 #[.pointer (some ⟨b, 20, none⟩), .agg #[.int .u16 0, .int .u8 0, .int .u8 1, .int .u32 2, .int .u32 2, .int .i32 (-2147483647), .int .u16 0, .int .u16 0]] w fun e w' => e = .returned (.tuple #[]) ∧ ∃ v, Ads w' b { x with keys := v } ∧ KR w.heap.size w' v ∧ w'.heap[m]? = some (.map #[⟨K1, .agg #[.int .u16 0, .int .u8 0, .int .u8 1, .int .u32 2, .int .u32 2, .int .i32 (-2147483647), .int .u16 0, .int .u16 0], c⟩] (c + 1)) ∧ Touch (fun k => k = b ∨ k = m) w w' := by
  have HA : Hid (Ads w b x) := h
  have HM : Hid (w.heap[m]? = some (.map #[] c)) := hm
  clear h hm
  go_enter Try.func66, Try.ntmps66
  go_wp2_with fail
  have T0 : Touch (fun _ => False) w (w.alloc (.cells #[.int .u16 0, .int .u8 0, .int .u8 1, .int .u32 2, .int .u32 2, .int .i32 (-2147483647), .int .u16 0, .int .u16 0] 50)) := (Touch.refl _ _).alloc _
  have R0 : Row (w.alloc (.cells #[.int .u16 0, .int .u8 0, .int .u8 1, .int .u32 2, .int .u32 2, .int .i32 (-2147483647), .int .u16 0, .int .u16 0] 50)) w.heap.size 50 [.int .u16 0, .int .u8 0, .int .u8 1, .int .u32 2, .int .u32 2, .int .i32 (-2147483647), .int .u16 0, .int .u16 0] := row_new _ _ _
  have hsz : w.heap.size < (w.alloc (.cells #[.int .u16 0, .int .u8 0, .int .u8 1, .int .u32 2, .int .u32 2, .int .i32 (-2147483647), .int .u16 0, .int .u16 0] 50)).heap.size := by simp
  generalize w.alloc (.cells #[.int .u16 0, .int .u8 0, .int .u8 1, .int .u32 2, .int .u32 2, .int .i32 (-2147483647), .int .u16 0, .int .u16 0] 50) = wa at *
  generalize hg0 : w.heap.size = g0 at *
  refine Calls.mono (keyOf_one _) ?_
  rintro e w1 ⟨rfl, t1⟩
  have T1 : Touch (fun _ => False) w w1 := T0.trans t1
  have R1 := R0.keep t1
  clear T0 R0 t1
  go_upto_region 2 with fail
  have T2 : Touch (fun _ => False) w (w1.alloc (.cells #[.int .u8 1, .int .u32 2, .int .u32 2] 47)) := T1.alloc _
  have R2h : Row (w1.alloc (.cells #[.int .u8 1, .int .u32 2, .int .u32 2] 47)) g0 50 [.int .u16 0, .int .u8 0, .int .u8 1, .int .u32 2, .int .u32 2, .int .i32 (-2147483647), .int .u16 0, .int .u16 0] := R1.keep ((Touch.refl _ _).alloc _)
  have R2k : Row (w1.alloc (.cells #[.int .u8 1, .int .u32 2, .int .u32 2] 47)) w1.heap.size 47 [.int .u8 1, .int .u32 2, .int .u32 2] := row_new _ _ _
  have hg1 : w.heap.size ≤ w1.heap.size := T1.size
  generalize w1.alloc (.cells #[.int .u8 1, .int .u32 2, .int .u32 2] 47) = w2 at *
  generalize w1.heap.size = g1 at *
  clear R1 T1
  have HA2 := HA.out.keep T2
  have HM2 := T2.heapN HM.out
  have d20 : w2.cell? ⟨b, 20, none⟩ = some (.map (some m)) := by rw [← hw]; exact HA2.cell 20
  have k0 : w2.cell? ⟨g1, 0, none⟩ = some (.int .u8 1) := R2k.cell 0
  have k1 : w2.cell? ⟨g1, 1, none⟩ = some (.int .u32 2) := R2k.cell 1
  have k2 : w2.cell? ⟨g1, 2, none⟩ = some (.int .u32 2) := R2k.cell 2
  have hb2 := HA2.lt
  have hk2 := R2k.lt
  have hl1 := mlook_none (w := w2.drew) HM2
  have T3 : Touch (fun _ => False) w2 ((w2.alloc (.cells #[.int .u16 0, .int .u8 0, .int .u8 0, .int .u32 0, .int .u32 0, .int .i32 0, .int .u16 0, .int .u16 0] 50)).drew) := ((Touch.refl _ _).alloc _).drew
  have hl2 := mlook_none (T3.heapN HM2)
  unfold K1 at hl1 hl2
  have X : Hid (Ads w2 b x ∧ w2.heap[m]? = some (.map #[] c) ∧ Row w2 g0 50 [.int .u16 0, .int .u8 0, .int .u8 1, .int .u32 2, .int .u32 2, .int .i32 (-2147483647), .int .u16 0, .int .u16 0] ∧ Row w2 g1 47 [.int .u8 1, .int .u32 2, .int .u32 2] ∧ Touch (fun _ => False) w w2) := ⟨HA2, HM2, R2h, R2k, T2⟩
  clear HA2 HM2 R2h R2k T2
  go_cut [5, 6] (fun s5 s6 wx => s5 = .pointer (some ⟨w2.heap.size, 0, none⟩) ∧ s6 = .bool false ∧ wx = (w2.alloc (.cells #[.int .u16 0, .int .u8 0, .int .u8 0, .int .u32 0, .int .u32 0, .int .i32 0, .int .u16 0, .int .u16 0] 50)).drew)
  case first =>
    go_region
    all_goals go_wp2_with fail
    all_goals go_meet
    all_goals exact ⟨rfl, rfl, rfl⟩
  case rest =>
    obtain ⟨rfl, rfl, rfl⟩ := hcut
    obtain ⟨HA2, HM2, R2h, R2k, T2⟩ := X.out
    have HA3 := HA2.keep T3
    have HM3 := T3.heapN HM2
    have R3h := R2h.keep T3
    have R3k := R2k.keep T3
    have T30 := T2.trans T3
    generalize (w2.alloc (.cells #[.int .u16 0, .int .u8 0, .int .u8 0, .int .u32 0, .int .u32 0, .int .i32 0, .int .u16 0, .int .u16 0] 50)).drew = w3 at *
    clear HA2 HM2 R2h R2k T2 T3 hl1 hl2 d20 k0 k1 k2 hb2 hk2 X
    have d21 : w3.cell? ⟨b, 21, none⟩ = some (.slice none 0 0) := by rw [← hk]; exact HA3.cell 21
    have k0 : w3.cell? ⟨g1, 0, none⟩ = some (.int .u8 1) := R3k.cell 0
    have k1 : w3.cell? ⟨g1, 1, none⟩ = some (.int .u32 2) := R3k.cell 1
    have k2 : w3.cell? ⟨g1, 2, none⟩ = some (.int .u32 2) := R3k.cell 2
    have hb3 := HA3.lt
    have hk3 := R3k.lt
    have hf := HA3.frozen
    have T4 : Touch (fun _ => False) w3 ((w3.alloc (.cells #[.int .u8 1, .int .u32 2, .int .u32 2] 47)).drew) := ((Touch.refl _ _).alloc _).drew
    obtain ⟨i0, hi0, hz0, hz1, hz2⟩ := infoParts infoKey
    obtain ⟨v', w4, hrun, own4, grown4, -, hat⟩ := run_append_own_at (P := Try.prog) ((w3.alloc (.cells #[.int .u8 1, .int .u32 2, .int .u32 2] 47)).drew) w.heap.size 57 57 47 i0 _ 3 12 Try.underlying57 hi0 hz0 hz1 hz2 rfl (by omega) (.slice none 0 0) 0 [] (World.ownsRow_nil _ _ _ _) ⟨w3.heap.size, 0, none⟩ 1 1 [.int .u8 1, .int .u32 2, .int .u32 2] rfl (fun j u hj => by
      rcases (by have := (List.getElem?_eq_some_iff.1 hj).1; simp at this; omega : j = 0 ∨ j = 1 ∨ j = 2) with rfl | rfl | rfl
      · simp at hj; subst hj; simp [Addr.add, go_sem]
      · simp at hj; subst hj; simp [Addr.add, go_sem]
      · simp at hj; subst hj; simp [Addr.add, go_sem]) (fun u hu => by simp at hu; rcases hu with rfl | rfl <;> rfl) (by unfold maxLen; omega) (by omega) (Nat.le_trans T30.size T4.size)
    obtain ⟨ua, uc, rfl⟩ := own_shape own4
    have t4 : Touch (fun _ => False) ((w3.alloc (.cells #[.int .u8 1, .int .u32 2, .int .u32 2] 47)).drew) w4 := Touch.grown (Touch.refl _ _) grown4 (fun k hk => by cases hk)
    have HA4 := (HA3.keep T4).keep t4
    have HM4 := t4.heapN (T4.heapN HM3)
    have R4h := (R3h.keep T4).keep t4
    have R4k := (R3k.keep T4).keep t4
    have e21 : w4.cell? ⟨b, 21, none⟩ = some (.slice none 0 0) := t4.cellN (T4.cellN d21)
    have f21 := HA4.frozen 21
    have hb4 := HA4.lt
    have T40 : Touch (fun _ => False) w w4 := T30.trans (T4.trans t4)
    have hnb : ∀ k, (Value.slice ua 1 uc).ownBlock = some k → w.heap.size ≤ k := fun k hk => (own4.lt k hk).1
    have HA5 := HA4.set21 (.slice ua 1 uc)
    have t5 : Touch (fun k => k = b) w4 (w4.setCell ⟨b, 21, none⟩ (.slice ua 1 uc)) := (Touch.refl (fun k => k = b) w4).setCell (p := ⟨b, 21, none⟩) (Or.inl rfl) _
    have X : Hid (Ads (w4.setCell ⟨b, 21, none⟩ (.slice ua 1 uc)) b { x with keys := .slice ua 1 uc } ∧ (w4.setCell ⟨b, 21, none⟩ (.slice ua 1 uc)).heap[m]? = some (.map #[] c) ∧ Row (w4.setCell ⟨b, 21, none⟩ (.slice ua 1 uc)) g0 50 [.int .u16 0, .int .u8 0, .int .u8 1, .int .u32 2, .int .u32 2, .int .i32 (-2147483647), .int .u16 0, .int .u16 0] ∧ Row (w4.setCell ⟨b, 21, none⟩ (.slice ua 1 uc)) g1 47 [.int .u8 1, .int .u32 2, .int .u32 2] ∧ Touch (fun k => k = b) w (w4.setCell ⟨b, 21, none⟩ (.slice ua 1 uc)) ∧ KR w.heap.size (w4.setCell ⟨b, 21, none⟩ (.slice ua 1 uc)) (.slice ua 1 uc)) := by
      have hbw := HA.out.lt
      refine ⟨HA5, (t5.block m (lt_of_heap HM4) (fun e => hbm e.symm)).trans HM4, R4h.other (by show g0 ≠ b; omega) _, R4k.other (by show g1 ≠ b; omega) _, (T40.mono (fun _ _ f => f.elim)).trans t5, ?_⟩
      exact own_touch own4 t5 (fun k hk e => by have := hnb k hk; omega)
    clear HA3 HM3 R3h R3k T30 HA4 HM4 R4h R4k T40 HA5 t5 own4 grown4 hat hi0 hz0 hz1 hz2
    go_upto_region 4 with fail
    go_cut [] (fun wx => wx = (w4.setCell ⟨b, 21, none⟩ (.slice ua 1 uc)))
    case first =>
      go_region_law (refine step_run_append rfl (.tmp 24) (.tmp 26) 57 rfl _ _ _ _ (by rfl) (by rfl) hrun ?_)
      all_goals go_wp2_with fail
      all_goals go_meet
      all_goals rfl
    case rest =>
      subst hcut
      obtain ⟨HA5, HM5, R5h, R5k, T5, KR5⟩ := X.out
      clear X hrun t4 e21 f21 hb4 hf hnb d21 k0 k1 k2 T4 hb3 hk3
      generalize w4.setCell ⟨b, 21, none⟩ (.slice ua 1 uc) = w5 at *
      have d20 : w5.cell? ⟨b, 20, none⟩ = some (.map (some m)) := by rw [← hw]; exact HA5.cell 20
      have k0 : w5.cell? ⟨g1, 0, none⟩ = some (.int .u8 1) := R5k.cell 0
      have k1 : w5.cell? ⟨g1, 1, none⟩ = some (.int .u32 2) := R5k.cell 1
      have k2 : w5.cell? ⟨g1, 2, none⟩ = some (.int .u32 2) := R5k.cell 2
      have h0 : w5.cell? ⟨g0, 0, none⟩ = some (.int .u16 0) := R5h.cell 0
      have h1 : w5.cell? ⟨g0, 1, none⟩ = some (.int .u8 0) := R5h.cell 1
      have h2 : w5.cell? ⟨g0, 2, none⟩ = some (.int .u8 1) := R5h.cell 2
      have h3 : w5.cell? ⟨g0, 3, none⟩ = some (.int .u32 2) := R5h.cell 3
      have h4 : w5.cell? ⟨g0, 4, none⟩ = some (.int .u32 2) := R5h.cell 4
      have h5 : w5.cell? ⟨g0, 5, none⟩ = some (.int .i32 (-2147483647)) := R5h.cell 5
      have h6 : w5.cell? ⟨g0, 6, none⟩ = some (.int .u16 0) := R5h.cell 6
      have h7 : w5.cell? ⟨g0, 7, none⟩ = some (.int .u16 0) := R5h.cell 7
      have hb5 := HA5.lt
      have hk5 := R5k.lt
      have hh5 := R5h.lt
      have hput := mput (w := w5.drew) (.agg #[.int .u16 0, .int .u8 0, .int .u8 1, .int .u32 2, .int .u32 2, .int .i32 (-2147483647), .int .u16 0, .int .u16 0]) HM5
      unfold K1 at hput
      have FIN : Hid (Ads (setBlock w5.drew m (.map #[⟨K1, .agg #[.int .u16 0, .int .u8 0, .int .u8 1, .int .u32 2, .int .u32 2, .int .i32 (-2147483647), .int .u16 0, .int .u16 0], c⟩] (c + 1))) b { x with keys := .slice ua 1 uc } ∧ KR w.heap.size (setBlock w5.drew m (.map #[⟨K1, .agg #[.int .u16 0, .int .u8 0, .int .u8 1, .int .u32 2, .int .u32 2, .int .i32 (-2147483647), .int .u16 0, .int .u16 0], c⟩] (c + 1))) (.slice ua 1 uc) ∧ (setBlock w5.drew m (.map #[⟨K1, .agg #[.int .u16 0, .int .u8 0, .int .u8 1, .int .u32 2, .int .u32 2, .int .i32 (-2147483647), .int .u16 0, .int .u16 0], c⟩] (c + 1))).heap[m]? = some (.map #[⟨K1, .agg #[.int .u16 0, .int .u8 0, .int .u8 1, .int .u32 2, .int .u32 2, .int .i32 (-2147483647), .int .u16 0, .int .u16 0], c⟩] (c + 1)) ∧ Touch (fun k => k = b ∨ k = m) w (setBlock w5.drew m (.map #[⟨K1, .agg #[.int .u16 0, .int .u8 0, .int .u8 1, .int .u32 2, .int .u32 2, .int .i32 (-2147483647), .int .u16 0, .int .u16 0], c⟩] (c + 1)))) := by
        have tm : Touch (fun k => k = m) w5 (setBlock w5.drew m (.map #[⟨K1, .agg #[.int .u16 0, .int .u8 0, .int .u8 1, .int .u32 2, .int .u32 2, .int .i32 (-2147483647), .int .u16 0, .int .u16 0], c⟩] (c + 1))) := (Touch.refl (fun k => k = m) w5).drew.trans (touch_block (w := w5.drew) HM5)
        have hmw := lt_of_heap HM.out
        refine ⟨HA5.touch tm hbm, own_touch KR5 tm (fun k hk e => by have := (KR5.lt k hk).1; omega), block_set (w := w5.drew) HM5, (T5.mono (fun _ _ e => Or.inl e)).trans (tm.mono (fun _ _ e => Or.inr e))⟩
      clear HA5 HM5 R5h R5k T5 KR5
      go_upto_region 6 with fail
      go_region
      all_goals go_wp2_with fail
      all_goals exact bodyPost_end (results_none rfl _ _ _) rfl ⟨rfl, _, FIN.out⟩
end Go.Proofs.Ytojlnabhaglejaa
