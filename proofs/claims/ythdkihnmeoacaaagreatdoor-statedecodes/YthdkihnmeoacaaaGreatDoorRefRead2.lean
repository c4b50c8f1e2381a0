/- The document's read: the types with rows. -/
import Derived.Test.YthdkihnmeoacaaaGreatDoorRefRead
import Derived.Test.YthdkihnmeoacaaaGreatDoorStRLink
import Derived.Test.YthdkihnmeoacaaaGreatDoorStRRtr
import Derived.Deep.RegionHeld3
import Derived.Deep.DeepCutAuto
namespace Go.Proofs.YthdkihnmeoacaaaGreatDoor
open Go.RowKit
set_option linter.unusedVariables false
set_option maxRecDepth 100000

attribute [local go_sem ↓] Go.wp_at_zero Go.wp_at_succ
theorem numOf_u16 {l : List Int} (h : ∀ x ∈ l, 0 ≤ x ∧ x < 256) (hl : l.length ≤ 2) : IntKind.u16.wrap (numOf l) = numOf l := by
  have hb := numOf_bound l h
  have hp : (256 : Int) ^ l.length ≤ 65536 := by rcases (by omega : l.length = 0 ∨ l.length = 1 ∨ l.length = 2) with e | e | e <;> rw [e] <;> decide
  simp [IntKind.wrap, IntKind.bits, IntKind.signed]
  omega
/-- b[i:j], the bounds as sums. -/
theorem cut_at {w : World} {va : Option Addr} {vc : Nat} {rs : List Int} (h : ArgAt w (.slice va rs.length vc) rs) (hb : ∀ x ∈ rs, 0 ≤ x ∧ x < 256) (p i n : Nat) (hn : n ≤ 4) (hp : 0 < rs.length) (hj : p + i + n ≤ rs.length) (a b : Int) (ha : a = (p : Int) + (i : Int)) (hbb : b = (p : Int) + (i + n : Nat)) :
    ∃ v, (∀ w, Sem.run Tryz.prog (Instr.slice 28 (.slice va rs.length vc) (some (.int .i64 a)) (some (.int .i64 b)) none) w = .ok v w) ∧ Nm w v (numOf ((rs.drop (p + i)).take n)) := by
  obtain ⟨u, hu, ha'⟩ := cut_mid h rfl hp (p + i) (p + i + n) (by omega) hj
  have e1 : a = ((p + i : Nat) : Int) := by omega
  have e2 : b = ((p + i + n : Nat) : Int) := by omega
  rw [← e1, ← e2] at hu
  refine ⟨u, hu, ⟨_, ha', fun x hx => hb x (List.mem_of_mem_drop (List.mem_of_mem_take hx)), by rw [List.length_take]; omega, ?_⟩⟩
  rw [show p + i + n - (p + i) = n by omega]
theorem OutB.mk2 {w : World} {g : Nat} {b : BV} {vl vr vd : Value} (k : OutB w g b vl vr vd) (x : Int) : OutB (w.setCell ⟨g, 2, none⟩ (.int .u32 x)) g { b with mask := x } vl vr vd := by
  obtain ⟨⟨c0, c1, c2, c3, c4, c5, c6, c7, c8⟩, fz⟩ := k
  exact ⟨⟨by simp [c0, go_sem], by simp [c1, go_sem], by simp [c2, go_sem], by simp [c3, go_sem], by simp [c4, go_sem], by simp [c5, go_sem], by simp [c6, go_sem], by simp [c7, go_sem], by simp [c8, go_sem]⟩, fun i hi => by simp [fz i hi, go_sem]⟩
theorem OutB.mk0 {w : World} {g : Nat} {b : BV} {vl vr vd : Value} (k : OutB w g b vl vr vd) (x : Int) : OutB (w.setCell ⟨g, 0, none⟩ (.int .u8 x)) g { b with flags := x } vl vr vd := by
  obtain ⟨⟨c0, c1, c2, c3, c4, c5, c6, c7, c8⟩, fz⟩ := k
  exact ⟨⟨by simp [c0, go_sem], by simp [c1, go_sem], by simp [c2, go_sem], by simp [c3, go_sem], by simp [c4, go_sem], by simp [c5, go_sem], by simp [c6, go_sem], by simp [c7, go_sem], by simp [c8, go_sem]⟩, fun i hi => by simp [fz i hi, go_sem]⟩
structure rnet2R (g : Nat) (rs : List Int) (M : Int) (w0 : World) (a : Value) (wx : World) : Prop where
  out : ∃ (ws : List Int) (ra : Option Addr) (rc : Nat), a = .int .i64 ((4 + 4 * ws.length : Nat) : Int) ∧ OutB wx (g + 1) ⟨0, [], M, ws, 0, false, 0, 0, []⟩ (.slice none 0 0) (.slice ra ws.length rc) (.slice none 0 0) ∧ wx.ownsRow (g + 2) 23 1 (.slice ra ws.length rc) ws.length (wordsC ws) ∧ Touch (fun j => j = g + 1) w0 wx ∧ Room wx g 9 ∧ 4 + 4 * ws.length ≤ rs.length ∧ readRouters ((rs.drop 4).take (4 * ws.length)) = ws
set_option maxHeartbeats 4000000 in
theorem rnet2_any (v : Value) (rs : List Int) (w : World) (hv : ArgAt w v rs) (hby : ∀ z ∈ rs, 0 ≤ z ∧ z < 256) (hl : 4 ≤ rs.length) (hl2 : rs.length ≤ 1000000) :
    Calls Tryz.prog 74 #[.int .u8 2, v] w fun e w' => ∃ u, e = .returned (.tuple #[.agg #[.int .u8 0, .slice none 0 0, .int .u32 (numOf (rs.take 4)), u, .int .u32 0, .bool false, .int .u32 0, .int .u32 0, .slice none 0 0], .bool true]) ∧ w'.ownsRow w.heap.size 23 1 u (readRouters (rs.drop 4)).length (wordsC (readRouters (rs.drop 4))) ∧ Touch (fun _ => False) w w' := by
  obtain ⟨va, vc, rfl, hm⟩ := hv.form
  have HVA : Hid (ArgAt w (.slice va rs.length vc) rs) := hv
  have HBY : Hid (∀ z ∈ rs, 0 ≤ z ∧ z < 256) := hby
  have HL : Hid (4 ≤ rs.length) := hl
  have HL2 : Hid (rs.length ≤ 1000000) := hl2
  obtain ⟨u, hu, a⟩ := cut_to hv rfl (by omega) 4 (by omega)
  replace hu : ∀ w, Sem.run Tryz.prog (Instr.slice 28 (.slice va rs.length vc) none (some (.int .i64 4)) none) w = .ok u w := hu
  have M0 : Nm w u (numOf (rs.take 4)) := ⟨_, a, fun x hx => hby x (List.mem_of_mem_take hx), by simp [List.length_take]; omega, rfl⟩
  clear a
  generalize numOf (rs.take 4) = M at *
  have hn : ¬ (rs.length : Int) < 4 := by omega
  have hn2 : (rs.length : Int) ≤ 1000000 := by omega
  clear hv hby hl hl2
  go_enter Tryz.func74, Tryz.ntmps74
  go_wp2_with fail
  refine Calls.mono (number_sym (Nm.keep M0 ?tt)) ?_
  case tt => exact (by repeat (first | exact Touch.refl _ _ | refine Touch.alloc ?_ _ | refine Touch.setCell ?_ (Or.inr (by simp)) _))
  rintro e wx ⟨rfl, rfl⟩
  clear hu M0
  go_wp2_with fail
  have O2 : Hid (OutB ((w.alloc (.cells #[.int .u8 0, .slice none 0 0, .int .u32 0, .slice none 0 0, .int .u32 0, .bool false, .int .u32 0, .int .u32 0, .slice none 0 0] 30)).alloc (.cells #[.int .u8 0, .slice none 0 0, .int .u32 M, .slice none 0 0, .int .u32 0, .bool false, .int .u32 0, .int .u32 0, .slice none 0 0] 30)) (w.heap.size + 1) ⟨0, [], M, [], 0, false, 0, 0, []⟩ (.slice none 0 0) (.slice none 0 0) (.slice none 0 0)) := by
    have h := OutB.new (w.alloc (.cells #[.int .u8 0, .slice none 0 0, .int .u32 0, .slice none 0 0, .int .u32 0, .bool false, .int .u32 0, .int .u32 0, .slice none 0 0] 30)) ⟨0, [], M, [], 0, false, 0, 0, []⟩ (.slice none 0 0) (.slice none 0 0) (.slice none 0 0) 30
    show OutB _ _ _ _ _ _
    simpa using h
  have R2 : Hid (Room ((w.alloc (.cells #[.int .u8 0, .slice none 0 0, .int .u32 0, .slice none 0 0, .int .u32 0, .bool false, .int .u32 0, .int .u32 0, .slice none 0 0] 30)).alloc (.cells #[.int .u8 0, .slice none 0 0, .int .u32 M, .slice none 0 0, .int .u32 0, .bool false, .int .u32 0, .int .u32 0, .slice none 0 0] 30)) w.heap.size 9) := by
    have h := (Room.new w #[.int .u8 0, .slice none 0 0, .int .u32 0, .slice none 0 0, .int .u32 0, .bool false, .int .u32 0, .int .u32 0, .slice none 0 0] 30).keep ((Touch.refl _ _).alloc (.cells #[.int .u8 0, .slice none 0 0, .int .u32 M, .slice none 0 0, .int .u32 0, .bool false, .int .u32 0, .int .u32 0, .slice none 0 0] 30))
    exact h
  have T2 : Hid (Touch (fun _ => False) w ((w.alloc (.cells #[.int .u8 0, .slice none 0 0, .int .u32 0, .slice none 0 0, .int .u32 0, .bool false, .int .u32 0, .int .u32 0, .slice none 0 0] 30)).alloc (.cells #[.int .u8 0, .slice none 0 0, .int .u32 M, .slice none 0 0, .int .u32 0, .bool false, .int .u32 0, .int .u32 0, .slice none 0 0] 30))) := (by repeat (first | exact Touch.refl _ _ | refine Touch.alloc ?_ _ | refine Touch.setCell ?_ (Or.inr (by simp)) _))
  have Z2 : Hid (((w.alloc (.cells #[.int .u8 0, .slice none 0 0, .int .u32 0, .slice none 0 0, .int .u32 0, .bool false, .int .u32 0, .int .u32 0, .slice none 0 0] 30)).alloc (.cells #[.int .u8 0, .slice none 0 0, .int .u32 M, .slice none 0 0, .int .u32 0, .bool false, .int .u32 0, .int .u32 0, .slice none 0 0] 30)).heap.size = w.heap.size + 2) := by show _ = _; simp
  generalize (w.alloc (.cells #[.int .u8 0, .slice none 0 0, .int .u32 0, .slice none 0 0, .int .u32 0, .bool false, .int .u32 0, .int .u32 0, .slice none 0 0] 30)).alloc (.cells #[.int .u8 0, .slice none 0 0, .int .u32 M, .slice none 0 0, .int .u32 0, .bool false, .int .u32 0, .int .u32 0, .slice none 0 0] 30) = w2 at *
  generalize hg : w.heap.size = g at *
  have HG : Hid (w.heap.size = g) := hg
  clear hg
  go_loopw [8] (fun a wr => rnet2R g rs M w2 a wr) (fun a _ => rs.length + 1 - (intOf a).toNat)
  case atStart => exact ⟨[], none, 0, rfl, O2.out, World.ownsRow_nil _ _ _ _, Touch.refl _ _, R2.out, by have := HL.out; simp; omega, by simp [readRouters]⟩
  case round =>
    obtain ⟨ws, ra, rc, rfl, oB, own, t2, rm, hle, hrd⟩ := hrel.out
    have HOB : Hid (OutB wr (g + 1) ⟨0, [], M, ws, 0, false, 0, 0, []⟩ (.slice none 0 0) (.slice ra ws.length rc) (.slice none 0 0)) := oB
    have HOW : Hid (wr.ownsRow (g + 2) 23 1 (.slice ra ws.length rc) ws.length (wordsC ws)) := own
    have HT2 : Hid (Touch (fun j => j = g + 1) w2 wr) := t2
    have HRM : Hid (Room wr g 9) := rm
    have HRD : Hid (readRouters ((rs.drop 4).take (4 * ws.length)) = ws) := hrd
    have HLE : Hid (4 + 4 * ws.length ≤ rs.length) := hle
    have TW : Hid (Touch (fun _ => False) w wr) := T2.out.trans' t2 (fun i hi e => by have := HG.out; omega)
    clear oB own t2 rm hrd hrel
    generalize hp : 4 + 4 * ws.length = p at *
    have HP : Hid (4 + 4 * ws.length = p) := hp
    clear hp
    by_cases hlt : p + 4 ≤ rs.length
    · have hlt' : (p : Int) + 4 ≤ (rs.length : Int) := by omega
      have hp0 : (0 : Int) ≤ (p : Int) := by omega
      have hwp4 : IntKind.i64.wrap ((p : Int) + 4) = (p : Int) + 4 := by have := HL2.out; simp [IntKind.wrap, IntKind.bits, IntKind.signed]; omega
      have AD : Hid (ArgAt wr.drew (.slice va rs.length vc) rs) := HVA.out.keepN TW.out.drew
      obtain ⟨u0, hu0, M0⟩ := cut_at AD.out HBY.out p 0 4 (by omega) (by omega) (by omega) (p : Int) ((p : Int) + 4) (by omega) (by omega)
      generalize hx0 : numOf ((rs.drop (p + 0)).take 4) = n0 at *
      have HX0 : Hid (numOf ((rs.drop (p + 0)).take 4) = n0) := hx0
      clear hx0
      have O1 : OutB wr.drew (g + 1) ⟨0, [], M, ws, 0, false, 0, 0, []⟩ (.slice none 0 0) (.slice ra ws.length rc) (.slice none 0 0) := HOB.out.keep ((Touch.refl _ _).drew)
      have HO1 : Hid (OutB wr.drew (g + 1) ⟨0, [], M, ws, 0, false, 0, 0, []⟩ (.slice none 0 0) (.slice ra ws.length rc) (.slice none 0 0)) := O1
      have d1 : wr.cell? ⟨g + 1, 3, none⟩ = some (.slice ra ws.length rc) := HOB.out.bd.c3
      have d1d : wr.drew.cell? ⟨g + 1, 3, none⟩ = some (.slice ra ws.length rc) := O1.bd.c3
      have d1a : (wr.alloc (.cells #[.int .u32 n0] 23)).cell? ⟨g + 1, 3, none⟩ = some (.slice ra ws.length rc) := ((Touch.refl (fun _ => False) wr).alloc _).cellN d1
      have d1b : (wr.drew.alloc (.cells #[.int .u32 n0] 23)).cell? ⟨g + 1, 3, none⟩ = some (.slice ra ws.length rc) := ((Touch.refl (fun _ => False) wr.drew).alloc _).cellN d1d
      have OWa : Hid ((wr.drew.alloc (.cells #[.int .u32 n0] 23)).ownsRow (g + 2) 23 1 (.slice ra ws.length rc) ws.length (wordsC ws)) := own_touch HOW.out (((Touch.refl (fun _ => False) wr).drew).alloc _) (fun _ _ h => h)
      have hzz : g + 2 ≤ wr.heap.size := by have := TW.out.size; have := HOB.out.lt; omega
      have hwl : ws.length ≤ 1000000 := by have := HP.out; have := HL2.out; omega
      clear O1 HOW
      go_upto_region 19 with fail
      refine wp_region_held_drew (S := fun _ => True) (by kernel_rfl) trivial (fun hHeld => ?_)
      refine wpAnyH_take (i := 0) (oi := ⟨some 81, _, _, _, _, _⟩) (v := .pointer (some ⟨g + 1, 3, none⟩)) rfl (by kernel_rfl) (by kernel_rfl) (by kernel_rfl) (fun _ _ _ h => h) (Or.inl ⟨by rfl, fun w hw => by go_simp⟩) (by assumption) ?_
      simp only [Act.put, List.setIfInBounds_toArray, List.set_cons_zero, List.set_cons_succ]
      refine wpAnyH_take (i := 2) (oi := ⟨some 83, _, _, _, _, _⟩) (v := .slice va rs.length vc) rfl (by kernel_rfl) (by kernel_rfl) (by kernel_rfl) (fun _ _ _ h => h) (Or.inl ⟨by rfl, fun w hw => by go_simp⟩) (by assumption) ?_
      simp only [Act.put, List.setIfInBounds_toArray, List.set_cons_zero, List.set_cons_succ]
      refine wpAnyH_take (i := 3) (oi := ⟨some 84, _, _, _, _, _⟩) (v := .int .i64 (p : Int)) rfl (by kernel_rfl) (by kernel_rfl) (by kernel_rfl) (fun _ _ _ h => h) (Or.inl ⟨by rfl, fun w hw => by go_simp⟩) (by assumption) ?_
      simp only [Act.put, List.setIfInBounds_toArray, List.set_cons_zero, List.set_cons_succ]
      refine wpAnyH_take (i := 4) (oi := ⟨some 85, _, _, _, _, _⟩) (v := .int .i64 (p : Int)) rfl (by kernel_rfl) (by kernel_rfl) (by kernel_rfl) (fun _ _ _ h => h) (Or.inl ⟨by rfl, fun w hw => by go_simp⟩) (by assumption) ?_
      simp only [Act.put, List.setIfInBounds_toArray, List.set_cons_zero, List.set_cons_succ]
      refine wpAnyH_take (i := 5) (oi := ⟨some 86, _, _, _, _, _⟩) (v := .int .i64 ((p : Int) + 4)) rfl (by kernel_rfl) (by kernel_rfl) (by kernel_rfl) (fun _ _ _ h => h) (Or.inl ⟨by rfl, fun w hw => by go_simp⟩) (by assumption) ?_
      simp only [Act.put, List.setIfInBounds_toArray, List.set_cons_zero, List.set_cons_succ]
      refine wpAnyH_take (i := 6) (oi := ⟨some 87, _, _, _, _, _⟩) (v := u0) rfl (by kernel_rfl) (by kernel_rfl) (by kernel_rfl) (fun _ _ _ h => h) (Or.inl ⟨by rfl, fun w hw => by go_simp⟩) (by assumption) ?_
      simp only [Act.put, List.setIfInBounds_toArray, List.set_cons_zero, List.set_cons_succ]
      refine wpAnyH_ready (rs := [1, 7]) (by kernel_rfl) (by simp) ?_
      refine AllReadyH.cons rfl (fun K hK => ?_) (AllReadyH.cons rfl (fun K hK => ?_) AllReadyH.nil)
      · go_simp
        refine hK.out _ _ (trivial) (fun hHeld => ?_)
        clear hK K
        refine wpAnyH_ready (rs := [7]) (by kernel_rfl) (by simp) ?_
        refine AllReadyH.cons rfl (fun K hK => ?_) AllReadyH.nil
        go_simp
        refine Calls.mono (number_sym M0) ?_
        rintro e wx ⟨rfl, rfl⟩
        refine hK.out _ _ (trivial) (fun hHeld => ?_)
        clear hK K
        refine wpAnyH_ready (rs := [8]) (by kernel_rfl) (by simp) ?_
        refine AllReadyH.cons rfl (fun K hK => ?_) AllReadyH.nil
        go_simp
        refine hK.out _ _ (trivial) (fun hHeld => ?_)
        clear hK K
        refine wpAnyH_ready (rs := [9]) (by kernel_rfl) (by simp) ?_
        refine AllReadyH.cons rfl (fun K hK => ?_) AllReadyH.nil
        refine step_own (by rfl) (.tmp 82) (.tmp 89) 27 (by rfl) (g + 2) 23 (.int .u32 0) 1 4 Tryz.underlying27 Tryz.infoU rfl (by decide) (by decide) (.slice ra ws.length rc) ws.length (wordsC ws) (by rfl) OWa.out ⟨wr.heap.size, 0, none⟩ 1 1 [.int .u32 n0] (by rfl) rfl (fun j u hj => by rw [add_plain]; cases j with | zero => (simp at hj; subst hj; simp [go_sem]) | succ j => simp at hj) (by simp [Value.oneCell']) (by omega) (by simp; omega) ?_
        intro v' wv ov tv
        obtain ⟨xa, xc, rfl⟩ := own_fm ov
        have OV : Hid (wv.ownsRow (g + 2) 23 1 (.slice xa (ws.length + 1) xc) (ws.length + 1) (wordsC ws ++ [.int .u32 n0])) := ov
        have TV : Hid (Touch (fun j => (Value.slice ra ws.length rc).ownBlock = some j) (wr.drew.alloc (.cells #[.int .u32 n0] 23)) wv) := tv
        have hnb : ∀ q, q ≤ g + 1 → ¬ (Value.slice ra ws.length rc).ownBlock = some q := fun q hq e => by have h1 := (OWa.out.lt _ e).1; omega
        have OBv : Hid (OutB wv (g + 1) ⟨0, [], M, ws, 0, false, 0, 0, []⟩ (.slice none 0 0) (.slice ra ws.length rc) (.slice none 0 0)) := OutB.kept (X := fun q => q = g + 1) (HO1.out.keep ((Touch.refl _ _).alloc _)) (Touch.mono tv (fun i _ e hx => hnb i (by omega) e)) rfl
        have RMv : Hid (Room wv g 9) := (HRM.out.keep (((Touch.refl _ _).drew).alloc _)).touch tv (hnb g (by omega))
        have TTv : Hid (Touch (fun j => j = g + 1) w2 wv) := ((HT2.out.trans ((Touch.refl _ _).drew)).alloc _).trans' tv (fun i hi e => by have h1 := (OWa.out.lt _ e).1; have h2 := Z2.out; omega)
        have dv : wv.cell? ⟨g + 1, 3, none⟩ = some (.slice ra ws.length rc) := OBv.out.bd.c3
        have fv : wv.frozen? ⟨g + 1, 3, none⟩ = false := OBv.out.fz 3 (by omega)
        clear ov tv
        refine hK.out _ _ (trivial) (fun hHeld => ?_)
        clear hK K
        refine wpAnyH_take (i := 10) (oi := ⟨some 91, _, _, _, _, _⟩) (v := .pointer (some ⟨g + 1, 3, none⟩)) rfl (by kernel_rfl) (by kernel_rfl) (by kernel_rfl) (fun _ _ _ h => h) (Or.inl ⟨by rfl, fun w hw => by go_simp⟩) (by assumption) ?_
        simp only [Act.put]
        refine wpAnyH_ready (rs := [11]) (by kernel_rfl) (by simp) ?_
        refine AllReadyH.cons rfl (fun K hK => ?_) AllReadyH.nil
        go_simp
        refine hK.out _ _ (trivial) (fun hHeld => ?_)
        clear hK K
        refine wpAnyH_done (by kernel_rfl) ?_ _
        clear dv fv d1 d1d d1a d1b
        go_wp2_with fail
        go_roundw
        case rel =>
          have e1 : (ws ++ [n0]).length = ws.length + 1 := by simp
          have HLK : n0 = numOf ((rs.drop p).take 4) := by rw [← HX0.out, Nat.add_zero]
          refine ⟨ws ++ [n0], xa, xc, ?_, ?_, ?_, ?_, ?_, ?_, ?_⟩
          · rw [e1, ← HP.out]; go_num
          · rw [e1]; exact OBv.out.row3 (ws ++ [n0]) _
          · rw [e1, wordsC_append]; exact own_store OV.out (by show g + 1 < g + 2; omega) _
          · exact TTv.out.setCell (Or.inl rfl) _
          · exact RMv.out.touch (Touch.setCell (F := fun k => k = g + 1) (p := ⟨g + 1, 3, none⟩) (Touch.refl _ _) (Or.inl rfl) _) (by show ¬ g = g + 1; omega)
          · rw [e1]; have := HP.out; omega
          · have h1 := routers_step (rs := rs) (ws := ws) (by have := HP.out; omega) HRD.out
            rw [e1, h1, HLK, ← HP.out]
        case measure => simp [intOf]; omega
      · go_simp
        refine Calls.mono (number_sym M0) ?_
        rintro e wx ⟨rfl, rfl⟩
        refine hK.out _ _ (trivial) (fun hHeld => ?_)
        clear hK K
        refine wpAnyH_ready (rs := [1, 8]) (by kernel_rfl) (by simp) ?_
        refine AllReadyH.cons rfl (fun K hK => ?_) (AllReadyH.cons rfl (fun K hK => ?_) AllReadyH.nil)
        · go_simp
          refine hK.out _ _ (trivial) (fun hHeld => ?_)
          clear hK K
          refine wpAnyH_ready (rs := [8]) (by kernel_rfl) (by simp) ?_
          refine AllReadyH.cons rfl (fun K hK => ?_) AllReadyH.nil
          go_simp
          refine hK.out _ _ (trivial) (fun hHeld => ?_)
          clear hK K
          refine wpAnyH_ready (rs := [9]) (by kernel_rfl) (by simp) ?_
          refine AllReadyH.cons rfl (fun K hK => ?_) AllReadyH.nil
          refine step_own (by rfl) (.tmp 82) (.tmp 89) 27 (by rfl) (g + 2) 23 (.int .u32 0) 1 4 Tryz.underlying27 Tryz.infoU rfl (by decide) (by decide) (.slice ra ws.length rc) ws.length (wordsC ws) (by rfl) OWa.out ⟨wr.heap.size, 0, none⟩ 1 1 [.int .u32 n0] (by rfl) rfl (fun j u hj => by rw [add_plain]; cases j with | zero => (simp at hj; subst hj; simp [go_sem]) | succ j => simp at hj) (by simp [Value.oneCell']) (by omega) (by simp; omega) ?_
          intro v' wv ov tv
          obtain ⟨xa, xc, rfl⟩ := own_fm ov
          have OV : Hid (wv.ownsRow (g + 2) 23 1 (.slice xa (ws.length + 1) xc) (ws.length + 1) (wordsC ws ++ [.int .u32 n0])) := ov
          have TV : Hid (Touch (fun j => (Value.slice ra ws.length rc).ownBlock = some j) (wr.drew.alloc (.cells #[.int .u32 n0] 23)) wv) := tv
          have hnb : ∀ q, q ≤ g + 1 → ¬ (Value.slice ra ws.length rc).ownBlock = some q := fun q hq e => by have h1 := (OWa.out.lt _ e).1; omega
          have OBv : Hid (OutB wv (g + 1) ⟨0, [], M, ws, 0, false, 0, 0, []⟩ (.slice none 0 0) (.slice ra ws.length rc) (.slice none 0 0)) := OutB.kept (X := fun q => q = g + 1) (HO1.out.keep ((Touch.refl _ _).alloc _)) (Touch.mono tv (fun i _ e hx => hnb i (by omega) e)) rfl
          have RMv : Hid (Room wv g 9) := (HRM.out.keep (((Touch.refl _ _).drew).alloc _)).touch tv (hnb g (by omega))
          have TTv : Hid (Touch (fun j => j = g + 1) w2 wv) := ((HT2.out.trans ((Touch.refl _ _).drew)).alloc _).trans' tv (fun i hi e => by have h1 := (OWa.out.lt _ e).1; have h2 := Z2.out; omega)
          have dv : wv.cell? ⟨g + 1, 3, none⟩ = some (.slice ra ws.length rc) := OBv.out.bd.c3
          have fv : wv.frozen? ⟨g + 1, 3, none⟩ = false := OBv.out.fz 3 (by omega)
          clear ov tv
          refine hK.out _ _ (trivial) (fun hHeld => ?_)
          clear hK K
          refine wpAnyH_take (i := 10) (oi := ⟨some 91, _, _, _, _, _⟩) (v := .pointer (some ⟨g + 1, 3, none⟩)) rfl (by kernel_rfl) (by kernel_rfl) (by kernel_rfl) (fun _ _ _ h => h) (Or.inl ⟨by rfl, fun w hw => by go_simp⟩) (by assumption) ?_
          simp only [Act.put]
          refine wpAnyH_ready (rs := [11]) (by kernel_rfl) (by simp) ?_
          refine AllReadyH.cons rfl (fun K hK => ?_) AllReadyH.nil
          go_simp
          refine hK.out _ _ (trivial) (fun hHeld => ?_)
          clear hK K
          refine wpAnyH_done (by kernel_rfl) ?_ _
          clear dv fv d1 d1d d1a d1b
          go_wp2_with fail
          go_roundw
          case rel =>
            have e1 : (ws ++ [n0]).length = ws.length + 1 := by simp
            have HLK : n0 = numOf ((rs.drop p).take 4) := by rw [← HX0.out, Nat.add_zero]
            refine ⟨ws ++ [n0], xa, xc, ?_, ?_, ?_, ?_, ?_, ?_, ?_⟩
            · rw [e1, ← HP.out]; go_num
            · rw [e1]; exact OBv.out.row3 (ws ++ [n0]) _
            · rw [e1, wordsC_append]; exact own_store OV.out (by show g + 1 < g + 2; omega) _
            · exact TTv.out.setCell (Or.inl rfl) _
            · exact RMv.out.touch (Touch.setCell (F := fun k => k = g + 1) (p := ⟨g + 1, 3, none⟩) (Touch.refl _ _) (Or.inl rfl) _) (by show ¬ g = g + 1; omega)
            · rw [e1]; have := HP.out; omega
            · have h1 := routers_step (rs := rs) (ws := ws) (by have := HP.out; omega) HRD.out
              rw [e1, h1, HLK, ← HP.out]
          case measure => simp [intOf]; omega
        · go_simp
          refine hK.out _ _ (trivial) (fun hHeld => ?_)
          clear hK K
          refine wpAnyH_ready (rs := [1]) (by kernel_rfl) (by simp) ?_
          refine AllReadyH.cons rfl (fun K hK => ?_) AllReadyH.nil
          go_simp
          refine hK.out _ _ (trivial) (fun hHeld => ?_)
          clear hK K
          refine wpAnyH_ready (rs := [9]) (by kernel_rfl) (by simp) ?_
          refine AllReadyH.cons rfl (fun K hK => ?_) AllReadyH.nil
          refine step_own (by rfl) (.tmp 82) (.tmp 89) 27 (by rfl) (g + 2) 23 (.int .u32 0) 1 4 Tryz.underlying27 Tryz.infoU rfl (by decide) (by decide) (.slice ra ws.length rc) ws.length (wordsC ws) (by rfl) OWa.out ⟨wr.heap.size, 0, none⟩ 1 1 [.int .u32 n0] (by rfl) rfl (fun j u hj => by rw [add_plain]; cases j with | zero => (simp at hj; subst hj; simp [go_sem]) | succ j => simp at hj) (by simp [Value.oneCell']) (by omega) (by simp; omega) ?_
          intro v' wv ov tv
          obtain ⟨xa, xc, rfl⟩ := own_fm ov
          have OV : Hid (wv.ownsRow (g + 2) 23 1 (.slice xa (ws.length + 1) xc) (ws.length + 1) (wordsC ws ++ [.int .u32 n0])) := ov
          have TV : Hid (Touch (fun j => (Value.slice ra ws.length rc).ownBlock = some j) (wr.drew.alloc (.cells #[.int .u32 n0] 23)) wv) := tv
          have hnb : ∀ q, q ≤ g + 1 → ¬ (Value.slice ra ws.length rc).ownBlock = some q := fun q hq e => by have h1 := (OWa.out.lt _ e).1; omega
          have OBv : Hid (OutB wv (g + 1) ⟨0, [], M, ws, 0, false, 0, 0, []⟩ (.slice none 0 0) (.slice ra ws.length rc) (.slice none 0 0)) := OutB.kept (X := fun q => q = g + 1) (HO1.out.keep ((Touch.refl _ _).alloc _)) (Touch.mono tv (fun i _ e hx => hnb i (by omega) e)) rfl
          have RMv : Hid (Room wv g 9) := (HRM.out.keep (((Touch.refl _ _).drew).alloc _)).touch tv (hnb g (by omega))
          have TTv : Hid (Touch (fun j => j = g + 1) w2 wv) := ((HT2.out.trans ((Touch.refl _ _).drew)).alloc _).trans' tv (fun i hi e => by have h1 := (OWa.out.lt _ e).1; have h2 := Z2.out; omega)
          have dv : wv.cell? ⟨g + 1, 3, none⟩ = some (.slice ra ws.length rc) := OBv.out.bd.c3
          have fv : wv.frozen? ⟨g + 1, 3, none⟩ = false := OBv.out.fz 3 (by omega)
          clear ov tv
          refine hK.out _ _ (trivial) (fun hHeld => ?_)
          clear hK K
          refine wpAnyH_take (i := 10) (oi := ⟨some 91, _, _, _, _, _⟩) (v := .pointer (some ⟨g + 1, 3, none⟩)) rfl (by kernel_rfl) (by kernel_rfl) (by kernel_rfl) (fun _ _ _ h => h) (Or.inl ⟨by rfl, fun w hw => by go_simp⟩) (by assumption) ?_
          simp only [Act.put]
          refine wpAnyH_ready (rs := [11]) (by kernel_rfl) (by simp) ?_
          refine AllReadyH.cons rfl (fun K hK => ?_) AllReadyH.nil
          go_simp
          refine hK.out _ _ (trivial) (fun hHeld => ?_)
          clear hK K
          refine wpAnyH_done (by kernel_rfl) ?_ _
          clear dv fv d1 d1d d1a d1b
          go_wp2_with fail
          go_roundw
          case rel =>
            have e1 : (ws ++ [n0]).length = ws.length + 1 := by simp
            have HLK : n0 = numOf ((rs.drop p).take 4) := by rw [← HX0.out, Nat.add_zero]
            refine ⟨ws ++ [n0], xa, xc, ?_, ?_, ?_, ?_, ?_, ?_, ?_⟩
            · rw [e1, ← HP.out]; go_num
            · rw [e1]; exact OBv.out.row3 (ws ++ [n0]) _
            · rw [e1, wordsC_append]; exact own_store OV.out (by show g + 1 < g + 2; omega) _
            · exact TTv.out.setCell (Or.inl rfl) _
            · exact RMv.out.touch (Touch.setCell (F := fun k => k = g + 1) (p := ⟨g + 1, 3, none⟩) (Touch.refl _ _) (Or.inl rfl) _) (by show ¬ g = g + 1; omega)
            · rw [e1]; have := HP.out; omega
            · have h1 := routers_step (rs := rs) (ws := ws) (by have := HP.out; omega) HRD.out
              rw [e1, h1, HLK, ← HP.out]
          case measure => simp [intOf]; omega
    · obtain ⟨d0, d1, d2, d3, d4, d5, d6, d7, d8⟩ := HOB.out.bd
      dsimp only at d0 d1 d2 d3 d4 d5 d6 d7 d8
      have hlt' : ¬ ((p : Int) + 4 ≤ (rs.length : Int)) := by omega
      go_upto_region 35 with fail
      obtain ⟨zz0, zc0, zf0⟩ := HRM.out 0 (by omega)
      obtain ⟨zz1, zc1, zf1⟩ := HRM.out 1 (by omega)
      obtain ⟨zz2, zc2, zf2⟩ := HRM.out 2 (by omega)
      obtain ⟨zz3, zc3, zf3⟩ := HRM.out 3 (by omega)
      obtain ⟨zz4, zc4, zf4⟩ := HRM.out 4 (by omega)
      obtain ⟨zz5, zc5, zf5⟩ := HRM.out 5 (by omega)
      obtain ⟨zz6, zc6, zf6⟩ := HRM.out 6 (by omega)
      obtain ⟨zz7, zc7, zf7⟩ := HRM.out 7 (by omega)
      obtain ⟨zz8, zc8, zf8⟩ := HRM.out 8 (by omega)
      obtain ⟨wz, hwz⟩ : ∃ wz, wz = (((((((((wr.setCell ⟨g, 0, none⟩ (.int .u8 0)).setCell ⟨g, 1, none⟩ (.slice none 0 0)).setCell ⟨g, 2, none⟩ (.int .u32 M)).setCell ⟨g, 3, none⟩ (.slice ra ws.length rc)).setCell ⟨g, 4, none⟩ (.int .u32 0)).setCell ⟨g, 5, none⟩ (.bool false)).setCell ⟨g, 6, none⟩ (.int .u32 0)).setCell ⟨g, 7, none⟩ (.int .u32 0)).setCell ⟨g, 8, none⟩ (.slice none 0 0)) := ⟨_, rfl⟩
      have zd0 : wz.cell? ⟨g, 0, none⟩ = some (.int .u8 0) := by rw [hwz]; simp [zc0, go_sem]
      have zd1 : wz.cell? ⟨g, 1, none⟩ = some (.slice none 0 0) := by rw [hwz]; simp [zc1, go_sem]
      have zd2 : wz.cell? ⟨g, 2, none⟩ = some (.int .u32 M) := by rw [hwz]; simp [zc2, go_sem]
      have zd3 : wz.cell? ⟨g, 3, none⟩ = some (.slice ra ws.length rc) := by rw [hwz]; simp [zc3, go_sem]
      have zd4 : wz.cell? ⟨g, 4, none⟩ = some (.int .u32 0) := by rw [hwz]; simp [zc4, go_sem]
      have zd5 : wz.cell? ⟨g, 5, none⟩ = some (.bool false) := by rw [hwz]; simp [zc5, go_sem]
      have zd6 : wz.cell? ⟨g, 6, none⟩ = some (.int .u32 0) := by rw [hwz]; simp [zc6, go_sem]
      have zd7 : wz.cell? ⟨g, 7, none⟩ = some (.int .u32 0) := by rw [hwz]; simp [zc7, go_sem]
      have zd8 : wz.cell? ⟨g, 8, none⟩ = some (.slice none 0 0) := by rw [hwz]; simp [zc8, go_sem]
      have HUz : Hid (Touch (fun k => k = g) wr wz) := by show Touch _ _ _; rw [hwz]; refine Touch.setCell (F := fun k => k = g) (p := ⟨g, 8, none⟩) ?_ (Or.inl rfl) _; refine Touch.setCell (F := fun k => k = g) (p := ⟨g, 7, none⟩) ?_ (Or.inl rfl) _; refine Touch.setCell (F := fun k => k = g) (p := ⟨g, 6, none⟩) ?_ (Or.inl rfl) _; refine Touch.setCell (F := fun k => k = g) (p := ⟨g, 5, none⟩) ?_ (Or.inl rfl) _; refine Touch.setCell (F := fun k => k = g) (p := ⟨g, 4, none⟩) ?_ (Or.inl rfl) _; refine Touch.setCell (F := fun k => k = g) (p := ⟨g, 3, none⟩) ?_ (Or.inl rfl) _; refine Touch.setCell (F := fun k => k = g) (p := ⟨g, 2, none⟩) ?_ (Or.inl rfl) _; refine Touch.setCell (F := fun k => k = g) (p := ⟨g, 1, none⟩) ?_ (Or.inl rfl) _; refine Touch.setCell (F := fun k => k = g) (p := ⟨g, 0, none⟩) ?_ (Or.inl rfl) _; exact Touch.refl _ _
      have HWz : Hid (wz = (((((((((wr.setCell ⟨g, 0, none⟩ (.int .u8 0)).setCell ⟨g, 1, none⟩ (.slice none 0 0)).setCell ⟨g, 2, none⟩ (.int .u32 M)).setCell ⟨g, 3, none⟩ (.slice ra ws.length rc)).setCell ⟨g, 4, none⟩ (.int .u32 0)).setCell ⟨g, 5, none⟩ (.bool false)).setCell ⟨g, 6, none⟩ (.int .u32 0)).setCell ⟨g, 7, none⟩ (.int .u32 0)).setCell ⟨g, 8, none⟩ (.slice none 0 0))) := hwz
      clear hwz
      go_wp2_with fail
      rw [← HWz.out]
      clear HWz zc0 zf0 zc1 zf1 zc2 zf2 zc3 zf3 zc4 zf4 zc5 zf5 zc6 zf6 zc7 zf7 zc8 zf8
      refine bodyPost_ret (v := .tuple #[.agg #[.int .u8 0, .slice none 0 0, .int .u32 M, .slice ra ws.length rc, .int .u32 0, .bool false, .int .u32 0, .int .u32 0, .slice none 0 0], .bool true]) (by simp [results, Tryz.results74, go_sem, zd0, zd1, zd2, zd3, zd4, zd5, zd6, zd7, zd8]) rfl ?_
      have HALL : readRouters (rs.drop 4) = ws := routers_all (by have := HP.out; have := HLE.out; omega) (by have := HP.out; omega) HRD.out
      rw [HALL]
      refine ⟨_, rfl, own_lower (own_touch HOW.out HUz.out (fun k hk e => by have h := (HOW.out.lt k hk).1; omega)) (by have := HG.out; omega), TW.out.trans' HUz.out (fun i hi e => by have := HG.out; omega)⟩
structure rrtr2R (g : Nat) (rs : List Int) (M : Int) (w0 : World) (a : Value) (wx : World) : Prop where
  out : ∃ (ws : List LV) (ra : Option Addr) (rc : Nat), a = .int .i64 ((4 + 12 * ws.length : Nat) : Int) ∧ OutB wx (g + 1) ⟨M, ws, 0, [], 0, false, 0, 0, []⟩ (.slice ra ws.length rc) (.slice none 0 0) (.slice none 0 0) ∧ wx.ownsRow (g + 2) 120 4 (.slice ra ws.length rc) ws.length (linksC ws) ∧ Touch (fun j => j = g + 1) w0 wx ∧ Room wx g 9 ∧ 4 + 12 * ws.length ≤ rs.length ∧ readLinks ((rs.drop 4).take (12 * ws.length)) = ws
set_option maxHeartbeats 4000000 in
theorem rrtr2_any (v : Value) (rs : List Int) (w : World) (hv : ArgAt w v rs) (hby : ∀ z ∈ rs, 0 ≤ z ∧ z < 256) (hl : 4 ≤ rs.length) (hl2 : rs.length ≤ 1000000) :
    Calls Tryz.prog 74 #[.int .u8 1, v] w fun e w' => ∃ u, e = .returned (.tuple #[.agg #[.int .u8 (rs.getD 0 0), u, .int .u32 0, .slice none 0 0, .int .u32 0, .bool false, .int .u32 0, .int .u32 0, .slice none 0 0], .bool true]) ∧ w'.ownsRow w.heap.size 120 4 u (readLinks (rs.drop 4)).length (linksC (readLinks (rs.drop 4))) ∧ Touch (fun _ => False) w w' := by
  obtain ⟨va, vc, rfl, hm⟩ := hv.form
  have HBY : Hid (∀ z ∈ rs, 0 ≤ z ∧ z < 256) := hby
  have HL : Hid (4 ≤ rs.length) := hl
  have HL2 : Hid (rs.length ≤ 1000000) := hl2
  obtain ⟨ga, oa, rfl⟩ := rowAt_some (hv.row (by omega)) (by omega)
  have b0 := rowAt_cell (hv.row (by omega)) 0 (by omega)
  have hga := lt_of_cell b0
  rw [Nat.add_zero] at b0
  have hga1 : ¬ ga = w.heap.size := by omega
  have hga2 : ¬ ga = w.heap.size + 1 := by omega
  have hga3 : ¬ w.heap.size + 1 = ga := by omega
  have hi0 : (0 : Int) < (rs.length : Int) := by omega
  have hj0 : 0 < rs.length := by omega
  have HVA : Hid (ArgAt w (.slice (some ⟨ga, oa, none⟩) rs.length vc) rs) := hv
  generalize rs.getD 0 0 = M at *
  have hn : ¬ (rs.length : Int) < 4 := by omega
  have hn2 : (rs.length : Int) ≤ 1000000 := by omega
  clear hv hby hl hl2
  go_enter Tryz.func74, Tryz.ntmps74
  go_wp2_with fail
  clear b0 hga hga1 hga2 hga3 hi0 hj0
  have O2 : Hid (OutB ((w.alloc (.cells #[.int .u8 0, .slice none 0 0, .int .u32 0, .slice none 0 0, .int .u32 0, .bool false, .int .u32 0, .int .u32 0, .slice none 0 0] 30)).alloc (.cells #[.int .u8 M, .slice none 0 0, .int .u32 0, .slice none 0 0, .int .u32 0, .bool false, .int .u32 0, .int .u32 0, .slice none 0 0] 30)) (w.heap.size + 1) ⟨M, [], 0, [], 0, false, 0, 0, []⟩ (.slice none 0 0) (.slice none 0 0) (.slice none 0 0)) := by
    have h := OutB.new (w.alloc (.cells #[.int .u8 0, .slice none 0 0, .int .u32 0, .slice none 0 0, .int .u32 0, .bool false, .int .u32 0, .int .u32 0, .slice none 0 0] 30)) ⟨M, [], 0, [], 0, false, 0, 0, []⟩ (.slice none 0 0) (.slice none 0 0) (.slice none 0 0) 30
    show OutB _ _ _ _ _ _
    simpa using h
  have R2 : Hid (Room ((w.alloc (.cells #[.int .u8 0, .slice none 0 0, .int .u32 0, .slice none 0 0, .int .u32 0, .bool false, .int .u32 0, .int .u32 0, .slice none 0 0] 30)).alloc (.cells #[.int .u8 M, .slice none 0 0, .int .u32 0, .slice none 0 0, .int .u32 0, .bool false, .int .u32 0, .int .u32 0, .slice none 0 0] 30)) w.heap.size 9) := by
    have h := (Room.new w #[.int .u8 0, .slice none 0 0, .int .u32 0, .slice none 0 0, .int .u32 0, .bool false, .int .u32 0, .int .u32 0, .slice none 0 0] 30).keep ((Touch.refl _ _).alloc (.cells #[.int .u8 M, .slice none 0 0, .int .u32 0, .slice none 0 0, .int .u32 0, .bool false, .int .u32 0, .int .u32 0, .slice none 0 0] 30))
    exact h
  have T2 : Hid (Touch (fun _ => False) w ((w.alloc (.cells #[.int .u8 0, .slice none 0 0, .int .u32 0, .slice none 0 0, .int .u32 0, .bool false, .int .u32 0, .int .u32 0, .slice none 0 0] 30)).alloc (.cells #[.int .u8 M, .slice none 0 0, .int .u32 0, .slice none 0 0, .int .u32 0, .bool false, .int .u32 0, .int .u32 0, .slice none 0 0] 30))) := (by repeat (first | exact Touch.refl _ _ | refine Touch.alloc ?_ _ | refine Touch.setCell ?_ (Or.inr (by simp)) _))
  have Z2 : Hid (((w.alloc (.cells #[.int .u8 0, .slice none 0 0, .int .u32 0, .slice none 0 0, .int .u32 0, .bool false, .int .u32 0, .int .u32 0, .slice none 0 0] 30)).alloc (.cells #[.int .u8 M, .slice none 0 0, .int .u32 0, .slice none 0 0, .int .u32 0, .bool false, .int .u32 0, .int .u32 0, .slice none 0 0] 30)).heap.size = w.heap.size + 2) := by show _ = _; simp
  generalize (w.alloc (.cells #[.int .u8 0, .slice none 0 0, .int .u32 0, .slice none 0 0, .int .u32 0, .bool false, .int .u32 0, .int .u32 0, .slice none 0 0] 30)).alloc (.cells #[.int .u8 M, .slice none 0 0, .int .u32 0, .slice none 0 0, .int .u32 0, .bool false, .int .u32 0, .int .u32 0, .slice none 0 0] 30) = w2 at *
  generalize hg : w.heap.size = g at *
  have HG : Hid (w.heap.size = g) := hg
  clear hg
  go_loopw [7] (fun a wr => rrtr2R g rs M w2 a wr) (fun a _ => rs.length + 1 - (intOf a).toNat)
  case atStart => exact ⟨[], none, 0, rfl, O2.out, World.ownsRow_nil _ _ _ _, Touch.refl _ _, R2.out, by have := HL.out; simp; omega, by simp [readLinks]⟩
  case round =>
    obtain ⟨ws, ra, rc, rfl, oB, own, t2, rm, hle, hrd⟩ := hrel.out
    have HOB : Hid (OutB wr (g + 1) ⟨M, ws, 0, [], 0, false, 0, 0, []⟩ (.slice ra ws.length rc) (.slice none 0 0) (.slice none 0 0)) := oB
    have HOW : Hid (wr.ownsRow (g + 2) 120 4 (.slice ra ws.length rc) ws.length (linksC ws)) := own
    have HT2 : Hid (Touch (fun j => j = g + 1) w2 wr) := t2
    have HRM : Hid (Room wr g 9) := rm
    have HRD : Hid (readLinks ((rs.drop 4).take (12 * ws.length)) = ws) := hrd
    have HLE : Hid (4 + 12 * ws.length ≤ rs.length) := hle
    have TW : Hid (Touch (fun _ => False) w wr) := T2.out.trans' t2 (fun i hi e => by have := HG.out; omega)
    clear oB own t2 rm hrd hrel
    generalize hp : 4 + 12 * ws.length = p at *
    have HP : Hid (4 + 12 * ws.length = p) := hp
    clear hp
    by_cases hlt : p + 12 ≤ rs.length
    · have hlt' : (p : Int) + 12 ≤ (rs.length : Int) := by omega
      have hp0 : (0 : Int) ≤ (p : Int) := by omega
      have hwp4 : IntKind.i64.wrap ((p : Int) + 4) = (p : Int) + 4 := by have := HL2.out; simp [IntKind.wrap, IntKind.bits, IntKind.signed]; omega
      have hwp8 : IntKind.i64.wrap ((p : Int) + 8) = (p : Int) + 8 := by have := HL2.out; simp [IntKind.wrap, IntKind.bits, IntKind.signed]; omega
      have hwp10 : IntKind.i64.wrap ((p : Int) + 10) = (p : Int) + 10 := by have := HL2.out; simp [IntKind.wrap, IntKind.bits, IntKind.signed]; omega
      have hwp12 : IntKind.i64.wrap ((p : Int) + 12) = (p : Int) + 12 := by have := HL2.out; simp [IntKind.wrap, IntKind.bits, IntKind.signed]; omega
      have AD : Hid (ArgAt wr.drew (.slice (some ⟨ga, oa, none⟩) rs.length vc) rs) := HVA.out.keepN TW.out.drew
      obtain ⟨u0, hu0, M0⟩ := cut_at AD.out HBY.out p 0 4 (by omega) (by omega) (by omega) (p : Int) ((p : Int) + 4) (by omega) (by omega)
      obtain ⟨u1, hu1, M1⟩ := cut_at AD.out HBY.out p 4 4 (by omega) (by omega) (by omega) ((p : Int) + 4) ((p : Int) + 8) (by omega) (by omega)
      obtain ⟨u2, hu2, M2⟩ := cut_at AD.out HBY.out p 10 2 (by omega) (by omega) (by omega) ((p : Int) + 10) ((p : Int) + 12) (by omega) (by omega)
      have hrow := AD.out.row (by omega)
      have b8 := rowAt_cell hrow (p + 8) (by omega)
      have hi8 : (p : Int) + 8 < (rs.length : Int) := by omega
      have hj8 : p + 8 < rs.length := by omega
      have hi8z : ¬ ((p : Int) + 8 < 0) := by omega
      have ht8 : ((p : Int) + 8).toNat = p + 8 := by omega
      have w10 := numOf_u16 (l := (rs.drop (p + 10)).take 2) (fun x hx => HBY.out x (List.mem_of_mem_drop (List.mem_of_mem_take hx))) (by rw [List.length_take]; omega)
      generalize hm8 : rs.getD (p + 8) 0 = m8 at b8
      have HM8 : Hid (rs.getD (p + 8) 0 = m8) := hm8
      clear hm8
      generalize hx0 : numOf ((rs.drop (p + 0)).take 4) = n0 at *
      have HX0 : Hid (numOf ((rs.drop (p + 0)).take 4) = n0) := hx0
      clear hx0
      generalize hx1 : numOf ((rs.drop (p + 4)).take 4) = n1 at *
      have HX1 : Hid (numOf ((rs.drop (p + 4)).take 4) = n1) := hx1
      clear hx1
      generalize hx2 : numOf ((rs.drop (p + 10)).take 2) = n2 at *
      have HX2 : Hid (numOf ((rs.drop (p + 10)).take 2) = n2) := hx2
      clear hx2
      have O1 : OutB wr.drew (g + 1) ⟨M, ws, 0, [], 0, false, 0, 0, []⟩ (.slice ra ws.length rc) (.slice none 0 0) (.slice none 0 0) := HOB.out.keep ((Touch.refl _ _).drew)
      have HO1 : Hid (OutB wr.drew (g + 1) ⟨M, ws, 0, [], 0, false, 0, 0, []⟩ (.slice ra ws.length rc) (.slice none 0 0) (.slice none 0 0)) := O1
      have d1 : wr.cell? ⟨g + 1, 1, none⟩ = some (.slice ra ws.length rc) := HOB.out.bd.c1
      have d1d : wr.drew.cell? ⟨g + 1, 1, none⟩ = some (.slice ra ws.length rc) := O1.bd.c1
      have d1a : (wr.alloc (.cells #[.int .u32 n0, .int .u32 n1, .int .u8 m8, .int .u16 n2] 120)).cell? ⟨g + 1, 1, none⟩ = some (.slice ra ws.length rc) := ((Touch.refl (fun _ => False) wr).alloc _).cellN d1
      have d1b : (wr.drew.alloc (.cells #[.int .u32 n0, .int .u32 n1, .int .u8 m8, .int .u16 n2] 120)).cell? ⟨g + 1, 1, none⟩ = some (.slice ra ws.length rc) := ((Touch.refl (fun _ => False) wr.drew).alloc _).cellN d1d
      have OWa : Hid ((wr.drew.alloc (.cells #[.int .u32 n0, .int .u32 n1, .int .u8 m8, .int .u16 n2] 120)).ownsRow (g + 2) 120 4 (.slice ra ws.length rc) ws.length (linksC ws)) := own_touch HOW.out (((Touch.refl (fun _ => False) wr).drew).alloc _) (fun _ _ h => h)
      have hzz : g + 2 ≤ wr.heap.size := by have := TW.out.size; have := HOB.out.lt; omega
      have hwl : ws.length ≤ 1000000 := by have := HP.out; have := HL2.out; omega
      clear O1 HOW
      go_upto_region 11 with fail
      have hgw : ga < w.heap.size := by
        have hr := HVA.out.row (by omega)
        exact lt_of_cell (rowAt_cell hr (p + 8) (by omega))
      have hgne : ga ≠ g + 1 := by have := HG.out; omega
      have b8a : (wr.drew.alloc (.cells #[.int .u32 n0, .int .u32 n1, .int .u8 m8, .int .u16 n2] 120)).cell? ⟨ga, oa + (p + 8), none⟩ = some (.int .u8 m8) := ((Touch.refl (fun _ => False) wr.drew).alloc _).cellN b8
      refine wp_region_held_drew (S := fun w' => w'.cell? ⟨ga, oa + (p + 8), none⟩ = some (.int .u8 m8)) (by kernel_rfl) b8 (fun hHeld => ?_)
      refine wpAnyH_take (i := 0) (oi := ⟨some 32, _, _, _, _, _⟩) (v := .pointer (some ⟨g + 1, 1, none⟩)) rfl (by kernel_rfl) (by kernel_rfl) (by kernel_rfl) (fun _ _ _ h => h) (Or.inl ⟨by rfl, fun w hw => by go_simp⟩) (by assumption) ?_
      simp only [Act.put, List.setIfInBounds_toArray, List.set_cons_zero, List.set_cons_succ]
      refine wpAnyH_take (i := 2) (oi := ⟨some 34, _, _, _, _, _⟩) (v := .slice (some ⟨ga, oa, none⟩) rs.length vc) rfl (by kernel_rfl) (by kernel_rfl) (by kernel_rfl) (fun _ _ _ h => h) (Or.inl ⟨by rfl, fun w hw => by go_simp⟩) (by assumption) ?_
      simp only [Act.put, List.setIfInBounds_toArray, List.set_cons_zero, List.set_cons_succ]
      refine wpAnyH_take (i := 3) (oi := ⟨some 35, _, _, _, _, _⟩) (v := .int .i64 (p : Int)) rfl (by kernel_rfl) (by kernel_rfl) (by kernel_rfl) (fun _ _ _ h => h) (Or.inl ⟨by rfl, fun w hw => by go_simp⟩) (by assumption) ?_
      simp only [Act.put, List.setIfInBounds_toArray, List.set_cons_zero, List.set_cons_succ]
      refine wpAnyH_take (i := 4) (oi := ⟨some 36, _, _, _, _, _⟩) (v := .int .i64 (p : Int)) rfl (by kernel_rfl) (by kernel_rfl) (by kernel_rfl) (fun _ _ _ h => h) (Or.inl ⟨by rfl, fun w hw => by go_simp⟩) (by assumption) ?_
      simp only [Act.put, List.setIfInBounds_toArray, List.set_cons_zero, List.set_cons_succ]
      refine wpAnyH_take (i := 5) (oi := ⟨some 37, _, _, _, _, _⟩) (v := .int .i64 ((p : Int) + 4)) rfl (by kernel_rfl) (by kernel_rfl) (by kernel_rfl) (fun _ _ _ h => h) (Or.inl ⟨by rfl, fun w hw => by go_simp⟩) (by assumption) ?_
      simp only [Act.put, List.setIfInBounds_toArray, List.set_cons_zero, List.set_cons_succ]
      refine wpAnyH_take (i := 6) (oi := ⟨some 38, _, _, _, _, _⟩) (v := u0) rfl (by kernel_rfl) (by kernel_rfl) (by kernel_rfl) (fun _ _ _ h => h) (Or.inl ⟨by rfl, fun w hw => by go_simp⟩) (by assumption) ?_
      simp only [Act.put, List.setIfInBounds_toArray, List.set_cons_zero, List.set_cons_succ]
      refine wpAnyH_take (i := 8) (oi := ⟨some 40, _, _, _, _, _⟩) (v := .slice (some ⟨ga, oa, none⟩) rs.length vc) rfl (by kernel_rfl) (by kernel_rfl) (by kernel_rfl) (fun _ _ _ h => h) (Or.inl ⟨by rfl, fun w hw => by go_simp⟩) (by assumption) ?_
      simp only [Act.put, List.setIfInBounds_toArray, List.set_cons_zero, List.set_cons_succ]
      refine wpAnyH_take (i := 9) (oi := ⟨some 41, _, _, _, _, _⟩) (v := .int .i64 (p : Int)) rfl (by kernel_rfl) (by kernel_rfl) (by kernel_rfl) (fun _ _ _ h => h) (Or.inl ⟨by rfl, fun w hw => by go_simp⟩) (by assumption) ?_
      simp only [Act.put, List.setIfInBounds_toArray, List.set_cons_zero, List.set_cons_succ]
      refine wpAnyH_take (i := 10) (oi := ⟨some 42, _, _, _, _, _⟩) (v := .int .i64 ((p : Int) + 4)) rfl (by kernel_rfl) (by kernel_rfl) (by kernel_rfl) (fun _ _ _ h => h) (Or.inl ⟨by rfl, fun w hw => by go_simp⟩) (by assumption) ?_
      simp only [Act.put, List.setIfInBounds_toArray, List.set_cons_zero, List.set_cons_succ]
      refine wpAnyH_take (i := 11) (oi := ⟨some 43, _, _, _, _, _⟩) (v := .int .i64 (p : Int)) rfl (by kernel_rfl) (by kernel_rfl) (by kernel_rfl) (fun _ _ _ h => h) (Or.inl ⟨by rfl, fun w hw => by go_simp⟩) (by assumption) ?_
      simp only [Act.put, List.setIfInBounds_toArray, List.set_cons_zero, List.set_cons_succ]
      refine wpAnyH_take (i := 12) (oi := ⟨some 44, _, _, _, _, _⟩) (v := .int .i64 ((p : Int) + 8)) rfl (by kernel_rfl) (by kernel_rfl) (by kernel_rfl) (fun _ _ _ h => h) (Or.inl ⟨by rfl, fun w hw => by go_simp⟩) (by assumption) ?_
      simp only [Act.put, List.setIfInBounds_toArray, List.set_cons_zero, List.set_cons_succ]
      refine wpAnyH_take (i := 13) (oi := ⟨some 45, _, _, _, _, _⟩) (v := u1) rfl (by kernel_rfl) (by kernel_rfl) (by kernel_rfl) (fun _ _ _ h => h) (Or.inl ⟨by rfl, fun w hw => by go_simp⟩) (by assumption) ?_
      simp only [Act.put, List.setIfInBounds_toArray, List.set_cons_zero, List.set_cons_succ]
      refine wpAnyH_take (i := 15) (oi := ⟨some 47, _, _, _, _, _⟩) (v := .slice (some ⟨ga, oa, none⟩) rs.length vc) rfl (by kernel_rfl) (by kernel_rfl) (by kernel_rfl) (fun _ _ _ h => h) (Or.inl ⟨by rfl, fun w hw => by go_simp⟩) (by assumption) ?_
      simp only [Act.put, List.setIfInBounds_toArray, List.set_cons_zero, List.set_cons_succ]
      refine wpAnyH_take (i := 16) (oi := ⟨some 48, _, _, _, _, _⟩) (v := .int .i64 (p : Int)) rfl (by kernel_rfl) (by kernel_rfl) (by kernel_rfl) (fun _ _ _ h => h) (Or.inl ⟨by rfl, fun w hw => by go_simp⟩) (by assumption) ?_
      simp only [Act.put, List.setIfInBounds_toArray, List.set_cons_zero, List.set_cons_succ]
      refine wpAnyH_take (i := 17) (oi := ⟨some 49, _, _, _, _, _⟩) (v := .int .i64 ((p : Int) + 8)) rfl (by kernel_rfl) (by kernel_rfl) (by kernel_rfl) (fun _ _ _ h => h) (Or.inl ⟨by rfl, fun w hw => by go_simp⟩) (by assumption) ?_
      simp only [Act.put, List.setIfInBounds_toArray, List.set_cons_zero, List.set_cons_succ]
      refine wpAnyH_take (i := 18) (oi := ⟨some 50, _, _, _, _, _⟩) (v := .pointer (some ⟨ga, oa + (p + 8), none⟩)) rfl (by kernel_rfl) (by kernel_rfl) (by kernel_rfl) (fun _ _ _ h => h) (Or.inl ⟨by rfl, fun w hw => by go_simp⟩) (by assumption) ?_
      simp only [Act.put, List.setIfInBounds_toArray, List.set_cons_zero, List.set_cons_succ]
      refine wpAnyH_take (i := 19) (oi := ⟨some 51, _, _, _, _, _⟩) (v := .int .u8 m8) rfl (by kernel_rfl) (by kernel_rfl) (by kernel_rfl) (fun _ _ _ h => h) (Or.inl ⟨by rfl, fun w hw => by (dsimp only at hw; go_simp)⟩) (by assumption) ?_
      simp only [Act.put, List.setIfInBounds_toArray, List.set_cons_zero, List.set_cons_succ]
      refine wpAnyH_take (i := 20) (oi := ⟨some 52, _, _, _, _, _⟩) (v := .slice (some ⟨ga, oa, none⟩) rs.length vc) rfl (by kernel_rfl) (by kernel_rfl) (by kernel_rfl) (fun _ _ _ h => h) (Or.inl ⟨by rfl, fun w hw => by go_simp⟩) (by assumption) ?_
      simp only [Act.put, List.setIfInBounds_toArray, List.set_cons_zero, List.set_cons_succ]
      refine wpAnyH_take (i := 21) (oi := ⟨some 53, _, _, _, _, _⟩) (v := .int .i64 (p : Int)) rfl (by kernel_rfl) (by kernel_rfl) (by kernel_rfl) (fun _ _ _ h => h) (Or.inl ⟨by rfl, fun w hw => by go_simp⟩) (by assumption) ?_
      simp only [Act.put, List.setIfInBounds_toArray, List.set_cons_zero, List.set_cons_succ]
      refine wpAnyH_take (i := 22) (oi := ⟨some 54, _, _, _, _, _⟩) (v := .int .i64 ((p : Int) + 10)) rfl (by kernel_rfl) (by kernel_rfl) (by kernel_rfl) (fun _ _ _ h => h) (Or.inl ⟨by rfl, fun w hw => by go_simp⟩) (by assumption) ?_
      simp only [Act.put, List.setIfInBounds_toArray, List.set_cons_zero, List.set_cons_succ]
      refine wpAnyH_take (i := 23) (oi := ⟨some 55, _, _, _, _, _⟩) (v := .int .i64 (p : Int)) rfl (by kernel_rfl) (by kernel_rfl) (by kernel_rfl) (fun _ _ _ h => h) (Or.inl ⟨by rfl, fun w hw => by go_simp⟩) (by assumption) ?_
      simp only [Act.put, List.setIfInBounds_toArray, List.set_cons_zero, List.set_cons_succ]
      refine wpAnyH_take (i := 24) (oi := ⟨some 56, _, _, _, _, _⟩) (v := .int .i64 ((p : Int) + 12)) rfl (by kernel_rfl) (by kernel_rfl) (by kernel_rfl) (fun _ _ _ h => h) (Or.inl ⟨by rfl, fun w hw => by go_simp⟩) (by assumption) ?_
      simp only [Act.put, List.setIfInBounds_toArray, List.set_cons_zero, List.set_cons_succ]
      refine wpAnyH_take (i := 25) (oi := ⟨some 57, _, _, _, _, _⟩) (v := u2) rfl (by kernel_rfl) (by kernel_rfl) (by kernel_rfl) (fun _ _ _ h => h) (Or.inl ⟨by rfl, fun w hw => by go_simp⟩) (by assumption) ?_
      simp only [Act.put, List.setIfInBounds_toArray, List.set_cons_zero, List.set_cons_succ]
      refine wpAnyH_ready (rs := [1, 7]) (by kernel_rfl) (by simp) ?_
      refine AllReadyH.cons rfl (fun K hK => ?_) (AllReadyH.cons rfl (fun K hK => ?_) AllReadyH.nil)
      · go_simp
        refine hK.out _ _ (b8) (fun hHeld => ?_)
        clear hK K
        refine wpAnyH_ready (rs := [7]) (by kernel_rfl) (by simp) ?_
        refine AllReadyH.cons rfl (fun K hK => ?_) AllReadyH.nil
        go_simp
        refine Calls.mono (number_sym M0) ?_
        rintro e wx ⟨rfl, rfl⟩
        refine hK.out _ _ (b8) (fun hHeld => ?_)
        clear hK K
        refine wpAnyH_ready (rs := [14]) (by kernel_rfl) (by simp) ?_
        refine AllReadyH.cons rfl (fun K hK => ?_) AllReadyH.nil
        go_simp
        refine Calls.mono (number_sym M1) ?_
        rintro e wx ⟨rfl, rfl⟩
        refine hK.out _ _ (b8) (fun hHeld => ?_)
        clear hK K
        refine wpAnyH_ready (rs := [26]) (by kernel_rfl) (by simp) ?_
        refine AllReadyH.cons rfl (fun K hK => ?_) AllReadyH.nil
        go_simp
        refine Calls.mono (number_sym M2) ?_
        rintro e wx ⟨rfl, rfl⟩
        refine hK.out _ _ (b8) (fun hHeld => ?_)
        clear hK K
        refine wpAnyH_take (i := 27) (oi := ⟨some 59, _, _, _, _, _⟩) (v := .int .u16 n2) rfl (by kernel_rfl) (by kernel_rfl) (by kernel_rfl) (fun _ _ _ h => h) (Or.inl ⟨by rfl, fun w hw => by go_simp⟩) (by assumption) ?_
        simp only [Act.put, List.setIfInBounds_toArray, List.set_cons_zero, List.set_cons_succ]
        refine wpAnyH_take (i := 28) (oi := ⟨some 60, _, _, _, _, _⟩) (v := .agg #[.int .u32 n0, .int .u32 n1, .int .u8 m8, .int .u16 n2]) rfl (by kernel_rfl) (by kernel_rfl) (by kernel_rfl) (fun _ _ _ h => h) (Or.inl ⟨by rfl, fun w hw => by go_simp⟩) (by assumption) ?_
        simp only [Act.put, List.setIfInBounds_toArray, List.set_cons_zero, List.set_cons_succ]
        refine wpAnyH_ready (rs := [29]) (by kernel_rfl) (by simp) ?_
        refine AllReadyH.cons rfl (fun K hK => ?_) AllReadyH.nil
        go_simp
        refine hK.out _ _ (b8a) (fun hHeld => ?_)
        clear hK K
        refine wpAnyH_ready (rs := [30]) (by kernel_rfl) (by simp) ?_
        refine AllReadyH.cons rfl (fun K hK => ?_) AllReadyH.nil
        refine step_own (by rfl) (.tmp 33) (.tmp 61) 26 (by rfl) (g + 2) 120 (.agg #[.int .u32 0, .int .u32 0, .int .u8 0, .int .u16 0]) 4 12 Tryz.underlying26 Tryz.infoL rfl (by decide) (by decide) (.slice ra ws.length rc) ws.length (linksC ws) (by rfl) OWa.out ⟨wr.heap.size, 0, none⟩ 1 1 [.int .u32 n0, .int .u32 n1, .int .u8 m8, .int .u16 n2] (by rfl) rfl (fun j u hj => by rw [add_plain]; match j, hj with | 0, hj => (simp at hj; subst hj; simp [go_sem]) | 1, hj => (simp at hj; subst hj; simp [go_sem]) | 2, hj => (simp at hj; subst hj; simp [go_sem]) | 3, hj => (simp at hj; subst hj; simp [go_sem]) | j + 4, hj => simp at hj) (by simp [Value.oneCell']) (by omega) (by simp; omega) ?_
        intro v' wv ov tv
        obtain ⟨xa, xc, rfl⟩ := own_fm ov
        have OV : Hid (wv.ownsRow (g + 2) 120 4 (.slice xa (ws.length + 1) xc) (ws.length + 1) (linksC ws ++ [.int .u32 n0, .int .u32 n1, .int .u8 m8, .int .u16 n2])) := ov
        have TV : Hid (Touch (fun j => (Value.slice ra ws.length rc).ownBlock = some j) (wr.drew.alloc (.cells #[.int .u32 n0, .int .u32 n1, .int .u8 m8, .int .u16 n2] 120)) wv) := tv
        have hnb : ∀ q, q ≤ g + 1 → ¬ (Value.slice ra ws.length rc).ownBlock = some q := fun q hq e => by have h1 := (OWa.out.lt _ e).1; omega
        have OBv : Hid (OutB wv (g + 1) ⟨M, ws, 0, [], 0, false, 0, 0, []⟩ (.slice ra ws.length rc) (.slice none 0 0) (.slice none 0 0)) := OutB.kept (X := fun q => q = g + 1) (HO1.out.keep ((Touch.refl _ _).alloc _)) (Touch.mono tv (fun i _ e hx => hnb i (by omega) e)) rfl
        have RMv : Hid (Room wv g 9) := (HRM.out.keep (((Touch.refl _ _).drew).alloc _)).touch tv (hnb g (by omega))
        have TTv : Hid (Touch (fun j => j = g + 1) w2 wv) := ((HT2.out.trans ((Touch.refl _ _).drew)).alloc _).trans' tv (fun i hi e => by have h1 := (OWa.out.lt _ e).1; have h2 := Z2.out; omega)
        have dv : wv.cell? ⟨g + 1, 1, none⟩ = some (.slice ra ws.length rc) := OBv.out.bd.c1
        have fv : wv.frozen? ⟨g + 1, 1, none⟩ = false := OBv.out.fz 1 (by omega)
        have b8v : wv.cell? ⟨ga, oa + (p + 8), none⟩ = some (.int .u8 m8) := (Touch.cell TV.out (p := ⟨ga, oa + (p + 8), none⟩) (lt_of_cell b8a) (hnb ga (by have := HG.out; omega))).trans b8a
        clear ov tv
        refine hK.out _ _ (b8v) (fun hHeld => ?_)
        clear hK K
        refine wpAnyH_take (i := 31) (oi := ⟨some 63, _, _, _, _, _⟩) (v := .pointer (some ⟨g + 1, 1, none⟩)) rfl (by kernel_rfl) (by kernel_rfl) (by kernel_rfl) (fun _ _ _ h => h) (Or.inl ⟨by rfl, fun w hw => by go_simp⟩) (by assumption) ?_
        simp only [Act.put]
        refine wpAnyH_ready (rs := [32]) (by kernel_rfl) (by simp) ?_
        refine AllReadyH.cons rfl (fun K hK => ?_) AllReadyH.nil
        go_simp
        refine hK.out _ _ ((cell_far hgne _ 1 _).trans b8v) (fun hHeld => ?_)
        clear hK K
        refine wpAnyH_done (by kernel_rfl) ?_ _
        clear dv fv d1 d1d d1a d1b
        go_wp2_with fail
        go_roundw
        case rel =>
          have e1 : (ws ++ [(⟨n0, n1, m8, n2⟩ : LV)]).length = ws.length + 1 := by simp
          have HLK : (⟨n0, n1, m8, n2⟩ : LV) = linkAt rs p := by unfold linkAt; rw [HM8.out]; simp only [← HX0.out, ← HX1.out, ← HX2.out, Nat.add_zero]
          refine ⟨ws ++ [(⟨n0, n1, m8, n2⟩ : LV)], xa, xc, ?_, ?_, ?_, ?_, ?_, ?_, ?_⟩
          · rw [e1, ← HP.out]; go_num
          · rw [e1]; exact OBv.out.row1 (ws ++ [(⟨n0, n1, m8, n2⟩ : LV)]) _
          · rw [e1, linksC_append]; exact own_store OV.out (by show g + 1 < g + 2; omega) _
          · exact TTv.out.setCell (Or.inl rfl) _
          · exact RMv.out.touch (Touch.setCell (F := fun k => k = g + 1) (p := ⟨g + 1, 1, none⟩) (Touch.refl _ _) (Or.inl rfl) _) (by show ¬ g = g + 1; omega)
          · rw [e1]; have := HP.out; omega
          · have h1 := links_step (rs := rs) (ls := ws) (by have := HP.out; omega) HRD.out
            rw [e1, h1, HLK, ← HP.out]
        case measure => simp [intOf]; omega
      · go_simp
        refine Calls.mono (number_sym M0) ?_
        rintro e wx ⟨rfl, rfl⟩
        refine hK.out _ _ (b8) (fun hHeld => ?_)
        clear hK K
        refine wpAnyH_ready (rs := [1, 14]) (by kernel_rfl) (by simp) ?_
        refine AllReadyH.cons rfl (fun K hK => ?_) (AllReadyH.cons rfl (fun K hK => ?_) AllReadyH.nil)
        · go_simp
          refine hK.out _ _ (b8) (fun hHeld => ?_)
          clear hK K
          refine wpAnyH_ready (rs := [14]) (by kernel_rfl) (by simp) ?_
          refine AllReadyH.cons rfl (fun K hK => ?_) AllReadyH.nil
          go_simp
          refine Calls.mono (number_sym M1) ?_
          rintro e wx ⟨rfl, rfl⟩
          refine hK.out _ _ (b8) (fun hHeld => ?_)
          clear hK K
          refine wpAnyH_ready (rs := [26]) (by kernel_rfl) (by simp) ?_
          refine AllReadyH.cons rfl (fun K hK => ?_) AllReadyH.nil
          go_simp
          refine Calls.mono (number_sym M2) ?_
          rintro e wx ⟨rfl, rfl⟩
          refine hK.out _ _ (b8) (fun hHeld => ?_)
          clear hK K
          refine wpAnyH_take (i := 27) (oi := ⟨some 59, _, _, _, _, _⟩) (v := .int .u16 n2) rfl (by kernel_rfl) (by kernel_rfl) (by kernel_rfl) (fun _ _ _ h => h) (Or.inl ⟨by rfl, fun w hw => by go_simp⟩) (by assumption) ?_
          simp only [Act.put, List.setIfInBounds_toArray, List.set_cons_zero, List.set_cons_succ]
          refine wpAnyH_take (i := 28) (oi := ⟨some 60, _, _, _, _, _⟩) (v := .agg #[.int .u32 n0, .int .u32 n1, .int .u8 m8, .int .u16 n2]) rfl (by kernel_rfl) (by kernel_rfl) (by kernel_rfl) (fun _ _ _ h => h) (Or.inl ⟨by rfl, fun w hw => by go_simp⟩) (by assumption) ?_
          simp only [Act.put, List.setIfInBounds_toArray, List.set_cons_zero, List.set_cons_succ]
          refine wpAnyH_ready (rs := [29]) (by kernel_rfl) (by simp) ?_
          refine AllReadyH.cons rfl (fun K hK => ?_) AllReadyH.nil
          go_simp
          refine hK.out _ _ (b8a) (fun hHeld => ?_)
          clear hK K
          refine wpAnyH_ready (rs := [30]) (by kernel_rfl) (by simp) ?_
          refine AllReadyH.cons rfl (fun K hK => ?_) AllReadyH.nil
          refine step_own (by rfl) (.tmp 33) (.tmp 61) 26 (by rfl) (g + 2) 120 (.agg #[.int .u32 0, .int .u32 0, .int .u8 0, .int .u16 0]) 4 12 Tryz.underlying26 Tryz.infoL rfl (by decide) (by decide) (.slice ra ws.length rc) ws.length (linksC ws) (by rfl) OWa.out ⟨wr.heap.size, 0, none⟩ 1 1 [.int .u32 n0, .int .u32 n1, .int .u8 m8, .int .u16 n2] (by rfl) rfl (fun j u hj => by rw [add_plain]; match j, hj with | 0, hj => (simp at hj; subst hj; simp [go_sem]) | 1, hj => (simp at hj; subst hj; simp [go_sem]) | 2, hj => (simp at hj; subst hj; simp [go_sem]) | 3, hj => (simp at hj; subst hj; simp [go_sem]) | j + 4, hj => simp at hj) (by simp [Value.oneCell']) (by omega) (by simp; omega) ?_
          intro v' wv ov tv
          obtain ⟨xa, xc, rfl⟩ := own_fm ov
          have OV : Hid (wv.ownsRow (g + 2) 120 4 (.slice xa (ws.length + 1) xc) (ws.length + 1) (linksC ws ++ [.int .u32 n0, .int .u32 n1, .int .u8 m8, .int .u16 n2])) := ov
          have TV : Hid (Touch (fun j => (Value.slice ra ws.length rc).ownBlock = some j) (wr.drew.alloc (.cells #[.int .u32 n0, .int .u32 n1, .int .u8 m8, .int .u16 n2] 120)) wv) := tv
          have hnb : ∀ q, q ≤ g + 1 → ¬ (Value.slice ra ws.length rc).ownBlock = some q := fun q hq e => by have h1 := (OWa.out.lt _ e).1; omega
          have OBv : Hid (OutB wv (g + 1) ⟨M, ws, 0, [], 0, false, 0, 0, []⟩ (.slice ra ws.length rc) (.slice none 0 0) (.slice none 0 0)) := OutB.kept (X := fun q => q = g + 1) (HO1.out.keep ((Touch.refl _ _).alloc _)) (Touch.mono tv (fun i _ e hx => hnb i (by omega) e)) rfl
          have RMv : Hid (Room wv g 9) := (HRM.out.keep (((Touch.refl _ _).drew).alloc _)).touch tv (hnb g (by omega))
          have TTv : Hid (Touch (fun j => j = g + 1) w2 wv) := ((HT2.out.trans ((Touch.refl _ _).drew)).alloc _).trans' tv (fun i hi e => by have h1 := (OWa.out.lt _ e).1; have h2 := Z2.out; omega)
          have dv : wv.cell? ⟨g + 1, 1, none⟩ = some (.slice ra ws.length rc) := OBv.out.bd.c1
          have fv : wv.frozen? ⟨g + 1, 1, none⟩ = false := OBv.out.fz 1 (by omega)
          have b8v : wv.cell? ⟨ga, oa + (p + 8), none⟩ = some (.int .u8 m8) := (Touch.cell TV.out (p := ⟨ga, oa + (p + 8), none⟩) (lt_of_cell b8a) (hnb ga (by have := HG.out; omega))).trans b8a
          clear ov tv
          refine hK.out _ _ (b8v) (fun hHeld => ?_)
          clear hK K
          refine wpAnyH_take (i := 31) (oi := ⟨some 63, _, _, _, _, _⟩) (v := .pointer (some ⟨g + 1, 1, none⟩)) rfl (by kernel_rfl) (by kernel_rfl) (by kernel_rfl) (fun _ _ _ h => h) (Or.inl ⟨by rfl, fun w hw => by go_simp⟩) (by assumption) ?_
          simp only [Act.put]
          refine wpAnyH_ready (rs := [32]) (by kernel_rfl) (by simp) ?_
          refine AllReadyH.cons rfl (fun K hK => ?_) AllReadyH.nil
          go_simp
          refine hK.out _ _ ((cell_far hgne _ 1 _).trans b8v) (fun hHeld => ?_)
          clear hK K
          refine wpAnyH_done (by kernel_rfl) ?_ _
          clear dv fv d1 d1d d1a d1b
          go_wp2_with fail
          go_roundw
          case rel =>
            have e1 : (ws ++ [(⟨n0, n1, m8, n2⟩ : LV)]).length = ws.length + 1 := by simp
            have HLK : (⟨n0, n1, m8, n2⟩ : LV) = linkAt rs p := by unfold linkAt; rw [HM8.out]; simp only [← HX0.out, ← HX1.out, ← HX2.out, Nat.add_zero]
            refine ⟨ws ++ [(⟨n0, n1, m8, n2⟩ : LV)], xa, xc, ?_, ?_, ?_, ?_, ?_, ?_, ?_⟩
            · rw [e1, ← HP.out]; go_num
            · rw [e1]; exact OBv.out.row1 (ws ++ [(⟨n0, n1, m8, n2⟩ : LV)]) _
            · rw [e1, linksC_append]; exact own_store OV.out (by show g + 1 < g + 2; omega) _
            · exact TTv.out.setCell (Or.inl rfl) _
            · exact RMv.out.touch (Touch.setCell (F := fun k => k = g + 1) (p := ⟨g + 1, 1, none⟩) (Touch.refl _ _) (Or.inl rfl) _) (by show ¬ g = g + 1; omega)
            · rw [e1]; have := HP.out; omega
            · have h1 := links_step (rs := rs) (ls := ws) (by have := HP.out; omega) HRD.out
              rw [e1, h1, HLK, ← HP.out]
          case measure => simp [intOf]; omega
        · go_simp
          refine Calls.mono (number_sym M1) ?_
          rintro e wx ⟨rfl, rfl⟩
          refine hK.out _ _ (b8) (fun hHeld => ?_)
          clear hK K
          refine wpAnyH_ready (rs := [1, 26]) (by kernel_rfl) (by simp) ?_
          refine AllReadyH.cons rfl (fun K hK => ?_) (AllReadyH.cons rfl (fun K hK => ?_) AllReadyH.nil)
          · go_simp
            refine hK.out _ _ (b8) (fun hHeld => ?_)
            clear hK K
            refine wpAnyH_ready (rs := [26]) (by kernel_rfl) (by simp) ?_
            refine AllReadyH.cons rfl (fun K hK => ?_) AllReadyH.nil
            go_simp
            refine Calls.mono (number_sym M2) ?_
            rintro e wx ⟨rfl, rfl⟩
            refine hK.out _ _ (b8) (fun hHeld => ?_)
            clear hK K
            refine wpAnyH_take (i := 27) (oi := ⟨some 59, _, _, _, _, _⟩) (v := .int .u16 n2) rfl (by kernel_rfl) (by kernel_rfl) (by kernel_rfl) (fun _ _ _ h => h) (Or.inl ⟨by rfl, fun w hw => by go_simp⟩) (by assumption) ?_
            simp only [Act.put, List.setIfInBounds_toArray, List.set_cons_zero, List.set_cons_succ]
            refine wpAnyH_take (i := 28) (oi := ⟨some 60, _, _, _, _, _⟩) (v := .agg #[.int .u32 n0, .int .u32 n1, .int .u8 m8, .int .u16 n2]) rfl (by kernel_rfl) (by kernel_rfl) (by kernel_rfl) (fun _ _ _ h => h) (Or.inl ⟨by rfl, fun w hw => by go_simp⟩) (by assumption) ?_
            simp only [Act.put, List.setIfInBounds_toArray, List.set_cons_zero, List.set_cons_succ]
            refine wpAnyH_ready (rs := [29]) (by kernel_rfl) (by simp) ?_
            refine AllReadyH.cons rfl (fun K hK => ?_) AllReadyH.nil
            go_simp
            refine hK.out _ _ (b8a) (fun hHeld => ?_)
            clear hK K
            refine wpAnyH_ready (rs := [30]) (by kernel_rfl) (by simp) ?_
            refine AllReadyH.cons rfl (fun K hK => ?_) AllReadyH.nil
            refine step_own (by rfl) (.tmp 33) (.tmp 61) 26 (by rfl) (g + 2) 120 (.agg #[.int .u32 0, .int .u32 0, .int .u8 0, .int .u16 0]) 4 12 Tryz.underlying26 Tryz.infoL rfl (by decide) (by decide) (.slice ra ws.length rc) ws.length (linksC ws) (by rfl) OWa.out ⟨wr.heap.size, 0, none⟩ 1 1 [.int .u32 n0, .int .u32 n1, .int .u8 m8, .int .u16 n2] (by rfl) rfl (fun j u hj => by rw [add_plain]; match j, hj with | 0, hj => (simp at hj; subst hj; simp [go_sem]) | 1, hj => (simp at hj; subst hj; simp [go_sem]) | 2, hj => (simp at hj; subst hj; simp [go_sem]) | 3, hj => (simp at hj; subst hj; simp [go_sem]) | j + 4, hj => simp at hj) (by simp [Value.oneCell']) (by omega) (by simp; omega) ?_
            intro v' wv ov tv
            obtain ⟨xa, xc, rfl⟩ := own_fm ov
            have OV : Hid (wv.ownsRow (g + 2) 120 4 (.slice xa (ws.length + 1) xc) (ws.length + 1) (linksC ws ++ [.int .u32 n0, .int .u32 n1, .int .u8 m8, .int .u16 n2])) := ov
            have TV : Hid (Touch (fun j => (Value.slice ra ws.length rc).ownBlock = some j) (wr.drew.alloc (.cells #[.int .u32 n0, .int .u32 n1, .int .u8 m8, .int .u16 n2] 120)) wv) := tv
            have hnb : ∀ q, q ≤ g + 1 → ¬ (Value.slice ra ws.length rc).ownBlock = some q := fun q hq e => by have h1 := (OWa.out.lt _ e).1; omega
            have OBv : Hid (OutB wv (g + 1) ⟨M, ws, 0, [], 0, false, 0, 0, []⟩ (.slice ra ws.length rc) (.slice none 0 0) (.slice none 0 0)) := OutB.kept (X := fun q => q = g + 1) (HO1.out.keep ((Touch.refl _ _).alloc _)) (Touch.mono tv (fun i _ e hx => hnb i (by omega) e)) rfl
            have RMv : Hid (Room wv g 9) := (HRM.out.keep (((Touch.refl _ _).drew).alloc _)).touch tv (hnb g (by omega))
            have TTv : Hid (Touch (fun j => j = g + 1) w2 wv) := ((HT2.out.trans ((Touch.refl _ _).drew)).alloc _).trans' tv (fun i hi e => by have h1 := (OWa.out.lt _ e).1; have h2 := Z2.out; omega)
            have dv : wv.cell? ⟨g + 1, 1, none⟩ = some (.slice ra ws.length rc) := OBv.out.bd.c1
            have fv : wv.frozen? ⟨g + 1, 1, none⟩ = false := OBv.out.fz 1 (by omega)
            have b8v : wv.cell? ⟨ga, oa + (p + 8), none⟩ = some (.int .u8 m8) := (Touch.cell TV.out (p := ⟨ga, oa + (p + 8), none⟩) (lt_of_cell b8a) (hnb ga (by have := HG.out; omega))).trans b8a
            clear ov tv
            refine hK.out _ _ (b8v) (fun hHeld => ?_)
            clear hK K
            refine wpAnyH_take (i := 31) (oi := ⟨some 63, _, _, _, _, _⟩) (v := .pointer (some ⟨g + 1, 1, none⟩)) rfl (by kernel_rfl) (by kernel_rfl) (by kernel_rfl) (fun _ _ _ h => h) (Or.inl ⟨by rfl, fun w hw => by go_simp⟩) (by assumption) ?_
            simp only [Act.put]
            refine wpAnyH_ready (rs := [32]) (by kernel_rfl) (by simp) ?_
            refine AllReadyH.cons rfl (fun K hK => ?_) AllReadyH.nil
            go_simp
            refine hK.out _ _ ((cell_far hgne _ 1 _).trans b8v) (fun hHeld => ?_)
            clear hK K
            refine wpAnyH_done (by kernel_rfl) ?_ _
            clear dv fv d1 d1d d1a d1b
            go_wp2_with fail
            go_roundw
            case rel =>
              have e1 : (ws ++ [(⟨n0, n1, m8, n2⟩ : LV)]).length = ws.length + 1 := by simp
              have HLK : (⟨n0, n1, m8, n2⟩ : LV) = linkAt rs p := by unfold linkAt; rw [HM8.out]; simp only [← HX0.out, ← HX1.out, ← HX2.out, Nat.add_zero]
              refine ⟨ws ++ [(⟨n0, n1, m8, n2⟩ : LV)], xa, xc, ?_, ?_, ?_, ?_, ?_, ?_, ?_⟩
              · rw [e1, ← HP.out]; go_num
              · rw [e1]; exact OBv.out.row1 (ws ++ [(⟨n0, n1, m8, n2⟩ : LV)]) _
              · rw [e1, linksC_append]; exact own_store OV.out (by show g + 1 < g + 2; omega) _
              · exact TTv.out.setCell (Or.inl rfl) _
              · exact RMv.out.touch (Touch.setCell (F := fun k => k = g + 1) (p := ⟨g + 1, 1, none⟩) (Touch.refl _ _) (Or.inl rfl) _) (by show ¬ g = g + 1; omega)
              · rw [e1]; have := HP.out; omega
              · have h1 := links_step (rs := rs) (ls := ws) (by have := HP.out; omega) HRD.out
                rw [e1, h1, HLK, ← HP.out]
            case measure => simp [intOf]; omega
          · go_simp
            refine Calls.mono (number_sym M2) ?_
            rintro e wx ⟨rfl, rfl⟩
            refine hK.out _ _ (b8) (fun hHeld => ?_)
            clear hK K
            refine wpAnyH_take (i := 27) (oi := ⟨some 59, _, _, _, _, _⟩) (v := .int .u16 n2) rfl (by kernel_rfl) (by kernel_rfl) (by kernel_rfl) (fun _ _ _ h => h) (Or.inl ⟨by rfl, fun w hw => by go_simp⟩) (by assumption) ?_
            simp only [Act.put, List.setIfInBounds_toArray, List.set_cons_zero, List.set_cons_succ]
            refine wpAnyH_take (i := 28) (oi := ⟨some 60, _, _, _, _, _⟩) (v := .agg #[.int .u32 n0, .int .u32 n1, .int .u8 m8, .int .u16 n2]) rfl (by kernel_rfl) (by kernel_rfl) (by kernel_rfl) (fun _ _ _ h => h) (Or.inl ⟨by rfl, fun w hw => by go_simp⟩) (by assumption) ?_
            simp only [Act.put, List.setIfInBounds_toArray, List.set_cons_zero, List.set_cons_succ]
            refine wpAnyH_ready (rs := [1, 29]) (by kernel_rfl) (by simp) ?_
            refine AllReadyH.cons rfl (fun K hK => ?_) (AllReadyH.cons rfl (fun K hK => ?_) AllReadyH.nil)
            · go_simp
              refine hK.out _ _ (b8) (fun hHeld => ?_)
              clear hK K
              refine wpAnyH_ready (rs := [29]) (by kernel_rfl) (by simp) ?_
              refine AllReadyH.cons rfl (fun K hK => ?_) AllReadyH.nil
              go_simp
              refine hK.out _ _ (b8a) (fun hHeld => ?_)
              clear hK K
              refine wpAnyH_ready (rs := [30]) (by kernel_rfl) (by simp) ?_
              refine AllReadyH.cons rfl (fun K hK => ?_) AllReadyH.nil
              refine step_own (by rfl) (.tmp 33) (.tmp 61) 26 (by rfl) (g + 2) 120 (.agg #[.int .u32 0, .int .u32 0, .int .u8 0, .int .u16 0]) 4 12 Tryz.underlying26 Tryz.infoL rfl (by decide) (by decide) (.slice ra ws.length rc) ws.length (linksC ws) (by rfl) OWa.out ⟨wr.heap.size, 0, none⟩ 1 1 [.int .u32 n0, .int .u32 n1, .int .u8 m8, .int .u16 n2] (by rfl) rfl (fun j u hj => by rw [add_plain]; match j, hj with | 0, hj => (simp at hj; subst hj; simp [go_sem]) | 1, hj => (simp at hj; subst hj; simp [go_sem]) | 2, hj => (simp at hj; subst hj; simp [go_sem]) | 3, hj => (simp at hj; subst hj; simp [go_sem]) | j + 4, hj => simp at hj) (by simp [Value.oneCell']) (by omega) (by simp; omega) ?_
              intro v' wv ov tv
              obtain ⟨xa, xc, rfl⟩ := own_fm ov
              have OV : Hid (wv.ownsRow (g + 2) 120 4 (.slice xa (ws.length + 1) xc) (ws.length + 1) (linksC ws ++ [.int .u32 n0, .int .u32 n1, .int .u8 m8, .int .u16 n2])) := ov
              have TV : Hid (Touch (fun j => (Value.slice ra ws.length rc).ownBlock = some j) (wr.drew.alloc (.cells #[.int .u32 n0, .int .u32 n1, .int .u8 m8, .int .u16 n2] 120)) wv) := tv
              have hnb : ∀ q, q ≤ g + 1 → ¬ (Value.slice ra ws.length rc).ownBlock = some q := fun q hq e => by have h1 := (OWa.out.lt _ e).1; omega
              have OBv : Hid (OutB wv (g + 1) ⟨M, ws, 0, [], 0, false, 0, 0, []⟩ (.slice ra ws.length rc) (.slice none 0 0) (.slice none 0 0)) := OutB.kept (X := fun q => q = g + 1) (HO1.out.keep ((Touch.refl _ _).alloc _)) (Touch.mono tv (fun i _ e hx => hnb i (by omega) e)) rfl
              have RMv : Hid (Room wv g 9) := (HRM.out.keep (((Touch.refl _ _).drew).alloc _)).touch tv (hnb g (by omega))
              have TTv : Hid (Touch (fun j => j = g + 1) w2 wv) := ((HT2.out.trans ((Touch.refl _ _).drew)).alloc _).trans' tv (fun i hi e => by have h1 := (OWa.out.lt _ e).1; have h2 := Z2.out; omega)
              have dv : wv.cell? ⟨g + 1, 1, none⟩ = some (.slice ra ws.length rc) := OBv.out.bd.c1
              have fv : wv.frozen? ⟨g + 1, 1, none⟩ = false := OBv.out.fz 1 (by omega)
              have b8v : wv.cell? ⟨ga, oa + (p + 8), none⟩ = some (.int .u8 m8) := (Touch.cell TV.out (p := ⟨ga, oa + (p + 8), none⟩) (lt_of_cell b8a) (hnb ga (by have := HG.out; omega))).trans b8a
              clear ov tv
              refine hK.out _ _ (b8v) (fun hHeld => ?_)
              clear hK K
              refine wpAnyH_take (i := 31) (oi := ⟨some 63, _, _, _, _, _⟩) (v := .pointer (some ⟨g + 1, 1, none⟩)) rfl (by kernel_rfl) (by kernel_rfl) (by kernel_rfl) (fun _ _ _ h => h) (Or.inl ⟨by rfl, fun w hw => by go_simp⟩) (by assumption) ?_
              simp only [Act.put]
              refine wpAnyH_ready (rs := [32]) (by kernel_rfl) (by simp) ?_
              refine AllReadyH.cons rfl (fun K hK => ?_) AllReadyH.nil
              go_simp
              refine hK.out _ _ ((cell_far hgne _ 1 _).trans b8v) (fun hHeld => ?_)
              clear hK K
              refine wpAnyH_done (by kernel_rfl) ?_ _
              clear dv fv d1 d1d d1a d1b
              go_wp2_with fail
              go_roundw
              case rel =>
                have e1 : (ws ++ [(⟨n0, n1, m8, n2⟩ : LV)]).length = ws.length + 1 := by simp
                have HLK : (⟨n0, n1, m8, n2⟩ : LV) = linkAt rs p := by unfold linkAt; rw [HM8.out]; simp only [← HX0.out, ← HX1.out, ← HX2.out, Nat.add_zero]
                refine ⟨ws ++ [(⟨n0, n1, m8, n2⟩ : LV)], xa, xc, ?_, ?_, ?_, ?_, ?_, ?_, ?_⟩
                · rw [e1, ← HP.out]; go_num
                · rw [e1]; exact OBv.out.row1 (ws ++ [(⟨n0, n1, m8, n2⟩ : LV)]) _
                · rw [e1, linksC_append]; exact own_store OV.out (by show g + 1 < g + 2; omega) _
                · exact TTv.out.setCell (Or.inl rfl) _
                · exact RMv.out.touch (Touch.setCell (F := fun k => k = g + 1) (p := ⟨g + 1, 1, none⟩) (Touch.refl _ _) (Or.inl rfl) _) (by show ¬ g = g + 1; omega)
                · rw [e1]; have := HP.out; omega
                · have h1 := links_step (rs := rs) (ls := ws) (by have := HP.out; omega) HRD.out
                  rw [e1, h1, HLK, ← HP.out]
              case measure => simp [intOf]; omega
            · go_simp
              refine hK.out _ _ (b8a) (fun hHeld => ?_)
              clear hK K
              refine wpAnyH_ready (rs := [1]) (by kernel_rfl) (by simp) ?_
              refine AllReadyH.cons rfl (fun K hK => ?_) AllReadyH.nil
              go_simp
              refine hK.out _ _ (b8a) (fun hHeld => ?_)
              clear hK K
              refine wpAnyH_ready (rs := [30]) (by kernel_rfl) (by simp) ?_
              refine AllReadyH.cons rfl (fun K hK => ?_) AllReadyH.nil
              refine step_own (by rfl) (.tmp 33) (.tmp 61) 26 (by rfl) (g + 2) 120 (.agg #[.int .u32 0, .int .u32 0, .int .u8 0, .int .u16 0]) 4 12 Tryz.underlying26 Tryz.infoL rfl (by decide) (by decide) (.slice ra ws.length rc) ws.length (linksC ws) (by rfl) OWa.out ⟨wr.heap.size, 0, none⟩ 1 1 [.int .u32 n0, .int .u32 n1, .int .u8 m8, .int .u16 n2] (by rfl) rfl (fun j u hj => by rw [add_plain]; match j, hj with | 0, hj => (simp at hj; subst hj; simp [go_sem]) | 1, hj => (simp at hj; subst hj; simp [go_sem]) | 2, hj => (simp at hj; subst hj; simp [go_sem]) | 3, hj => (simp at hj; subst hj; simp [go_sem]) | j + 4, hj => simp at hj) (by simp [Value.oneCell']) (by omega) (by simp; omega) ?_
              intro v' wv ov tv
              obtain ⟨xa, xc, rfl⟩ := own_fm ov
              have OV : Hid (wv.ownsRow (g + 2) 120 4 (.slice xa (ws.length + 1) xc) (ws.length + 1) (linksC ws ++ [.int .u32 n0, .int .u32 n1, .int .u8 m8, .int .u16 n2])) := ov
              have TV : Hid (Touch (fun j => (Value.slice ra ws.length rc).ownBlock = some j) (wr.drew.alloc (.cells #[.int .u32 n0, .int .u32 n1, .int .u8 m8, .int .u16 n2] 120)) wv) := tv
              have hnb : ∀ q, q ≤ g + 1 → ¬ (Value.slice ra ws.length rc).ownBlock = some q := fun q hq e => by have h1 := (OWa.out.lt _ e).1; omega
              have OBv : Hid (OutB wv (g + 1) ⟨M, ws, 0, [], 0, false, 0, 0, []⟩ (.slice ra ws.length rc) (.slice none 0 0) (.slice none 0 0)) := OutB.kept (X := fun q => q = g + 1) (HO1.out.keep ((Touch.refl _ _).alloc _)) (Touch.mono tv (fun i _ e hx => hnb i (by omega) e)) rfl
              have RMv : Hid (Room wv g 9) := (HRM.out.keep (((Touch.refl _ _).drew).alloc _)).touch tv (hnb g (by omega))
              have TTv : Hid (Touch (fun j => j = g + 1) w2 wv) := ((HT2.out.trans ((Touch.refl _ _).drew)).alloc _).trans' tv (fun i hi e => by have h1 := (OWa.out.lt _ e).1; have h2 := Z2.out; omega)
              have dv : wv.cell? ⟨g + 1, 1, none⟩ = some (.slice ra ws.length rc) := OBv.out.bd.c1
              have fv : wv.frozen? ⟨g + 1, 1, none⟩ = false := OBv.out.fz 1 (by omega)
              have b8v : wv.cell? ⟨ga, oa + (p + 8), none⟩ = some (.int .u8 m8) := (Touch.cell TV.out (p := ⟨ga, oa + (p + 8), none⟩) (lt_of_cell b8a) (hnb ga (by have := HG.out; omega))).trans b8a
              clear ov tv
              refine hK.out _ _ (b8v) (fun hHeld => ?_)
              clear hK K
              refine wpAnyH_take (i := 31) (oi := ⟨some 63, _, _, _, _, _⟩) (v := .pointer (some ⟨g + 1, 1, none⟩)) rfl (by kernel_rfl) (by kernel_rfl) (by kernel_rfl) (fun _ _ _ h => h) (Or.inl ⟨by rfl, fun w hw => by go_simp⟩) (by assumption) ?_
              simp only [Act.put]
              refine wpAnyH_ready (rs := [32]) (by kernel_rfl) (by simp) ?_
              refine AllReadyH.cons rfl (fun K hK => ?_) AllReadyH.nil
              go_simp
              refine hK.out _ _ ((cell_far hgne _ 1 _).trans b8v) (fun hHeld => ?_)
              clear hK K
              refine wpAnyH_done (by kernel_rfl) ?_ _
              clear dv fv d1 d1d d1a d1b
              go_wp2_with fail
              go_roundw
              case rel =>
                have e1 : (ws ++ [(⟨n0, n1, m8, n2⟩ : LV)]).length = ws.length + 1 := by simp
                have HLK : (⟨n0, n1, m8, n2⟩ : LV) = linkAt rs p := by unfold linkAt; rw [HM8.out]; simp only [← HX0.out, ← HX1.out, ← HX2.out, Nat.add_zero]
                refine ⟨ws ++ [(⟨n0, n1, m8, n2⟩ : LV)], xa, xc, ?_, ?_, ?_, ?_, ?_, ?_, ?_⟩
                · rw [e1, ← HP.out]; go_num
                · rw [e1]; exact OBv.out.row1 (ws ++ [(⟨n0, n1, m8, n2⟩ : LV)]) _
                · rw [e1, linksC_append]; exact own_store OV.out (by show g + 1 < g + 2; omega) _
                · exact TTv.out.setCell (Or.inl rfl) _
                · exact RMv.out.touch (Touch.setCell (F := fun k => k = g + 1) (p := ⟨g + 1, 1, none⟩) (Touch.refl _ _) (Or.inl rfl) _) (by show ¬ g = g + 1; omega)
                · rw [e1]; have := HP.out; omega
                · have h1 := links_step (rs := rs) (ls := ws) (by have := HP.out; omega) HRD.out
                  rw [e1, h1, HLK, ← HP.out]
              case measure => simp [intOf]; omega
    · obtain ⟨d0, d1, d2, d3, d4, d5, d6, d7, d8⟩ := HOB.out.bd
      dsimp only at d0 d1 d2 d3 d4 d5 d6 d7 d8
      have hlt' : ¬ ((p : Int) + 12 ≤ (rs.length : Int)) := by omega
      go_upto_region 35 with fail
      obtain ⟨zz0, zc0, zf0⟩ := HRM.out 0 (by omega)
      obtain ⟨zz1, zc1, zf1⟩ := HRM.out 1 (by omega)
      obtain ⟨zz2, zc2, zf2⟩ := HRM.out 2 (by omega)
      obtain ⟨zz3, zc3, zf3⟩ := HRM.out 3 (by omega)
      obtain ⟨zz4, zc4, zf4⟩ := HRM.out 4 (by omega)
      obtain ⟨zz5, zc5, zf5⟩ := HRM.out 5 (by omega)
      obtain ⟨zz6, zc6, zf6⟩ := HRM.out 6 (by omega)
      obtain ⟨zz7, zc7, zf7⟩ := HRM.out 7 (by omega)
      obtain ⟨zz8, zc8, zf8⟩ := HRM.out 8 (by omega)
      obtain ⟨wz, hwz⟩ : ∃ wz, wz = (((((((((wr.setCell ⟨g, 0, none⟩ (.int .u8 M)).setCell ⟨g, 1, none⟩ (.slice ra ws.length rc)).setCell ⟨g, 2, none⟩ (.int .u32 0)).setCell ⟨g, 3, none⟩ (.slice none 0 0)).setCell ⟨g, 4, none⟩ (.int .u32 0)).setCell ⟨g, 5, none⟩ (.bool false)).setCell ⟨g, 6, none⟩ (.int .u32 0)).setCell ⟨g, 7, none⟩ (.int .u32 0)).setCell ⟨g, 8, none⟩ (.slice none 0 0)) := ⟨_, rfl⟩
      have zd0 : wz.cell? ⟨g, 0, none⟩ = some (.int .u8 M) := by rw [hwz]; simp [zc0, go_sem]
      have zd1 : wz.cell? ⟨g, 1, none⟩ = some (.slice ra ws.length rc) := by rw [hwz]; simp [zc1, go_sem]
      have zd2 : wz.cell? ⟨g, 2, none⟩ = some (.int .u32 0) := by rw [hwz]; simp [zc2, go_sem]
      have zd3 : wz.cell? ⟨g, 3, none⟩ = some (.slice none 0 0) := by rw [hwz]; simp [zc3, go_sem]
      have zd4 : wz.cell? ⟨g, 4, none⟩ = some (.int .u32 0) := by rw [hwz]; simp [zc4, go_sem]
      have zd5 : wz.cell? ⟨g, 5, none⟩ = some (.bool false) := by rw [hwz]; simp [zc5, go_sem]
      have zd6 : wz.cell? ⟨g, 6, none⟩ = some (.int .u32 0) := by rw [hwz]; simp [zc6, go_sem]
      have zd7 : wz.cell? ⟨g, 7, none⟩ = some (.int .u32 0) := by rw [hwz]; simp [zc7, go_sem]
      have zd8 : wz.cell? ⟨g, 8, none⟩ = some (.slice none 0 0) := by rw [hwz]; simp [zc8, go_sem]
      have HUz : Hid (Touch (fun k => k = g) wr wz) := by show Touch _ _ _; rw [hwz]; refine Touch.setCell (F := fun k => k = g) (p := ⟨g, 8, none⟩) ?_ (Or.inl rfl) _; refine Touch.setCell (F := fun k => k = g) (p := ⟨g, 7, none⟩) ?_ (Or.inl rfl) _; refine Touch.setCell (F := fun k => k = g) (p := ⟨g, 6, none⟩) ?_ (Or.inl rfl) _; refine Touch.setCell (F := fun k => k = g) (p := ⟨g, 5, none⟩) ?_ (Or.inl rfl) _; refine Touch.setCell (F := fun k => k = g) (p := ⟨g, 4, none⟩) ?_ (Or.inl rfl) _; refine Touch.setCell (F := fun k => k = g) (p := ⟨g, 3, none⟩) ?_ (Or.inl rfl) _; refine Touch.setCell (F := fun k => k = g) (p := ⟨g, 2, none⟩) ?_ (Or.inl rfl) _; refine Touch.setCell (F := fun k => k = g) (p := ⟨g, 1, none⟩) ?_ (Or.inl rfl) _; refine Touch.setCell (F := fun k => k = g) (p := ⟨g, 0, none⟩) ?_ (Or.inl rfl) _; exact Touch.refl _ _
      have HWz : Hid (wz = (((((((((wr.setCell ⟨g, 0, none⟩ (.int .u8 M)).setCell ⟨g, 1, none⟩ (.slice ra ws.length rc)).setCell ⟨g, 2, none⟩ (.int .u32 0)).setCell ⟨g, 3, none⟩ (.slice none 0 0)).setCell ⟨g, 4, none⟩ (.int .u32 0)).setCell ⟨g, 5, none⟩ (.bool false)).setCell ⟨g, 6, none⟩ (.int .u32 0)).setCell ⟨g, 7, none⟩ (.int .u32 0)).setCell ⟨g, 8, none⟩ (.slice none 0 0))) := hwz
      clear hwz
      go_wp2_with fail
      rw [← HWz.out]
      clear HWz zc0 zf0 zc1 zf1 zc2 zf2 zc3 zf3 zc4 zf4 zc5 zf5 zc6 zf6 zc7 zf7 zc8 zf8
      refine bodyPost_ret (v := .tuple #[.agg #[.int .u8 M, .slice ra ws.length rc, .int .u32 0, .slice none 0 0, .int .u32 0, .bool false, .int .u32 0, .int .u32 0, .slice none 0 0], .bool true]) (by simp [results, Tryz.results74, go_sem, zd0, zd1, zd2, zd3, zd4, zd5, zd6, zd7, zd8]) rfl ?_
      have HALL : readLinks (rs.drop 4) = ws := links_all (by have := HP.out; have := HLE.out; omega) (by have := HP.out; omega) HRD.out
      rw [HALL]
      refine ⟨_, rfl, own_lower (own_touch HOW.out HUz.out (fun k hk e => by have h := (HOW.out.lt k hk).1; omega)) (by have := HG.out; omega), TW.out.trans' HUz.out (fun i hi e => by have := HG.out; omega)⟩
end Go.Proofs.YthdkihnmeoacaaaGreatDoor
