/- stays: keys are as they were. -/
import Derived.Test.YtjjgbcjgmjggnaaGreatDoorAuMay
import Derived.Test.YtjjgbcjgmjggnaaGreatDoorAuChk
import Derived.Test.YtjjgbcjgmjggnaaGreatDoorDigRow
import Derived.Test.YtjjgbcjgmjggnaaGreatDoorAuGiv
import Derived.Test.YtjjgbcjgmjggnaaGreatDoorWideB
import Derived.Deep.LoopGhost
import Derived.Deep.DeepCutAuto
import Derived.Test.YtjjgbcjgmjggnaaGreatDoorAuPure
import Derived.Test.YtjjgbcjgmjggnaaGreatDoorDigBuf
import Derived.Test.YtjjgbcjgmjggnaaGreatDoorDig1
namespace Go.Proofs.YtjjgbcjgmjggnaaGreatDoor
open Go.RowKit
set_option linter.unusedVariables false
set_option maxRecDepth 100000

structure StyR (ks : List KE) (w : World) (gg : Nat) (s5 : Value) (wr : World) : Prop where
  out : ∃ k : Nat, k ≤ ks.length ∧ ks.length - k ≤ gg ∧ s5 = .int .i64 k ∧ Touch (fun _ => False) w wr
set_option maxHeartbeats 4000000 in
theorem stays_any (va vk : Value) (ks ls : List KE) (base : Nat) (w : World) (hv : ChainAt w va ls) (hk : ChainAt w vk ks) (hs : pureL ls = pureL ks) (hw : ∀ y ∈ ls, WideKE w base y) (hb : ∀ y ∈ ls, y.p.sec.length ≤ 131072) (hl : ks.length ≤ 1000000) :
    Calls Tryz.prog 12 #[va, vk] w fun e w' => e = .returned (.bool true) ∧ Touch (fun _ => False) w w' := by
  obtain ⟨aa, ac, rfl, -⟩ := ValsAt.form hv.vals
  obtain ⟨ka, kc, rfl, -⟩ := ValsAt.form hk.vals
  have hll : ls.length = ks.length := by have := congrArg List.length hs; simpa using this
  have HV' : Hid (∀ w', Touch (fun _ => False) w w' → ChainAt w' (.slice aa ls.length ac) ls) := fun w' t => hv.keep t
  have HK' : Hid (∀ w', Touch (fun _ => False) w w' → ChainAt w' (.slice ka ks.length kc) ks) := fun w' t => hk.keep t
  have HW : Hid (∀ w', Touch (fun _ => False) w w' → ∀ (k : Nat) (x : KE), ks[k]? = some x → ∃ g, ls[k]? = some ⟨x.p, some ⟨g, 0, none⟩, x.p.sec.length + 64⟩ ∧ x.p.sec.length ≤ 131072 ∧ w'.heap[g]? = some (.cells (bytesOf (x.p.sec ++ spareMarks x.p.sec.length)).toArray 5 (0, 0))) := by
    intro w' t k x hx
    have hlt := (List.getElem?_eq_some_iff.mp hx).1
    have hy : ls[k]? = some (ls[k]'(by omega)) := List.getElem?_eq_getElem (by omega)
    generalize ls[k]'(by omega) = y at hy
    have hp : y.p = x.p := by
      have e := congrArg (fun l => l[k]?) hs
      simp only [List.getElem?_map, hx, hy, Option.map_some, Option.some.injEq] at e
      exact e
    have hm := List.mem_of_getElem? hy
    obtain ⟨g, h1, h2, h3, h4⟩ := (hw y hm).keep t (fun _ _ _ h => h)
    have hb' := hb y hm
    obtain ⟨p, a, c⟩ := y
    dsimp only at hp h1 h2 h4 hb'
    subst hp h1 h2
    exact ⟨g, hy, hb', h4⟩
  rw [hll] at HV' ⊢
  clear hv hk hw hb hs
  go_enter Tryz.func12, Tryz.ntmps12
  go_wp2_with fail
  go_loopg [5] ks.length (fun gg s5 wr => StyR ks w gg s5 wr)
  case atStart => exact ⟨0, by omega, by omega, rfl, Touch.refl _ _⟩
  case round =>
    obtain ⟨k, hk, hg, rfl, tr⟩ := hrel.out
    have TR : Hid (Touch (fun _ => False) w wr) := tr
    clear tr hrel
    by_cases hlt : k < ks.length
    · have hlt' : (k : Int) < (ks.length : Int) := by omega
      have hk00 : (0 : Int) ≤ (k : Int) := by omega
      have hkw : wrap64 ((k : Int) + 1) = (k : Int) + 1 := by unfold wrap64; omega
      obtain ⟨x, hx⟩ : ∃ x, ks[k]? = some x := ⟨ks[k], by simp [hlt]⟩
      obtain ⟨g, hy, hbx, hbl⟩ := HW.out wr TR.out k x hx
      obtain ⟨ox, gR, off, cR, eR, hcell⟩ := ChainAt.one (HK'.out wr TR.out) hx
      cases eR
      obtain ⟨-, gA, oA, cA, eA, hcela⟩ := ChainAt.one (HV'.out wr TR.out) hy
      rw [hll] at eA
      cases eA
      have e0 : wr.cell? ⟨gR, off + k * 7, none⟩ = some (.int .u8 x.p.id) := by exact hcell 0 _ rfl
      have e1 : wr.cell? ⟨gR, off + k * 7 + 1, none⟩ = some (.int .u16 x.p.kind) := by rw [Nat.add_assoc]; exact hcell 1 _ rfl
      have e2 : wr.cell? ⟨gR, off + k * 7 + 2, none⟩ = some (.slice x.a x.p.sec.length x.c) := by rw [Nat.add_assoc]; exact hcell 2 _ rfl
      have e3 : wr.cell? ⟨gR, off + k * 7 + 3, none⟩ = some (.int .i64 x.p.sf) := by rw [Nat.add_assoc]; exact hcell 3 _ rfl
      have e6 : wr.cell? ⟨gR, off + k * 7 + 6, none⟩ = some (.int .i64 x.p.tu) := by rw [Nat.add_assoc]; exact hcell 6 _ rfl
      have f0 : wr.cell? ⟨gA, oA + k * 7, none⟩ = some (.int .u8 x.p.id) := by exact hcela 0 _ rfl
      have f1 : wr.cell? ⟨gA, oA + k * 7 + 1, none⟩ = some (.int .u16 x.p.kind) := by rw [Nat.add_assoc]; exact hcela 1 _ rfl
      have f2 : wr.cell? ⟨gA, oA + k * 7 + 2, none⟩ = some (.slice (some ⟨g, 0, none⟩) x.p.sec.length (x.p.sec.length + 64)) := by rw [Nat.add_assoc]; exact hcela 2 _ rfl
      have f3 : wr.cell? ⟨gA, oA + k * 7 + 3, none⟩ = some (.int .i64 x.p.sf) := by rw [Nat.add_assoc]; exact hcela 3 _ rfl
      have f6 : wr.cell? ⟨gA, oA + k * 7 + 6, none⟩ = some (.int .i64 x.p.tu) := by rw [Nat.add_assoc]; exact hcela 6 _ rfl
      have HEQ : Hid (∀ w', Touch (fun _ => False) wr w' → Calls Tryz.prog 10 #[.slice (some ⟨g, 0, none⟩) x.p.sec.length (x.p.sec.length + 64), .slice x.a x.p.sec.length x.c] w' fun e w'' => e = .returned (.bool true) ∧ Touch (fun _ => False) w' w'') := fun w' t =>
        (eq_true _ _ x.p.sec w' (WideKE.row (x := ⟨x.p, some ⟨g, 0, none⟩, x.p.sec.length + 64⟩) (base := 0) ⟨g, rfl, rfl, Nat.zero_le _, t.heapN hbl⟩ hbx) (ox.arg.keep t (fun _ _ h => h))).mono fun e w'' ⟨h1, n, h2⟩ => ⟨h1, h2 ▸ (Touch.refl _ _).drewN n⟩
      have HSP : Hid (∀ w', Touch (fun _ => False) wr w' → Calls Tryz.prog 11 #[.slice (some ⟨g, 0, none⟩) x.p.sec.length (x.p.sec.length + 64)] w' fun e w'' => e = .returned (.bool true) ∧ Touch (fun _ => False) w' w'') := fun w' t =>
        (spare_any g x.p.sec w' (t.heapN hbl) (by omega)).mono fun e w'' ⟨h1, h2⟩ => ⟨h1, h2 ▸ Touch.refl _ _⟩
      have c0 := aft_cell e0
      have c1 := aft_cell e1
      have c2 := aft_cell e2
      have c3 := aft_cell e3
      have c6 := aft_cell e6
      have d0 := aft_cell f0
      have d1 := aft_cell f1
      have d2 := aft_cell f2
      have d3 := aft_cell f3
      have d6 := aft_cell f6
      clear hcell hcela hx hy ox hbl
      go_upto_region 4 with fail
      refine wp_region_aft (by kernel_rfl) (by kernel_rfl) ?_
      dsimp only [List.append]
      repeat (first | go_big_quiet_skip | (go_big_quiet_want; go_big_quiet_op; first | go_big_quiet_on | (refine Exists.intro _ ⟨fun _ => rfl, ?_⟩; go_big_quiet_on)))
      go_big_quiet_want; go_big_quiet_op; refine Exists.intro _ ⟨fun u => Aft.call (HEQ.out _ u.gr), ?_⟩; go_big_quiet_on
      repeat (first | go_big_quiet_skip | (go_big_quiet_want; go_big_quiet_op; first | go_big_quiet_on | (refine Exists.intro _ ⟨fun _ => rfl, ?_⟩; go_big_quiet_on)))
      go_big_quiet_want; go_big_quiet_op; refine Exists.intro _ ⟨fun u => Aft.call (HSP.out _ u.gr), ?_⟩; go_big_quiet_on
      repeat (first | go_big_quiet_skip | (go_big_quiet_want; go_big_quiet_op; first | go_big_quiet_on | (refine Exists.intro _ ⟨fun _ => rfl, ?_⟩; go_big_quiet_on)))
      refine wpQuiet_nil ?_
      rintro wq ⟨⟨_, hgq⟩, rfl⟩
      have T3 : Hid (Touch (fun _ => False) w wq) := TR.out.trans hgq
      clear hgq c0 c1 c2 c3 c6 d0 d1 d2 d3 d6 e0 e1 e2 e3 e6 f0 f1 f2 f3 f6
      go_wp2_with fail
      go_roundg (ks.length - (k + 1))
      case measure => omega
      case rel => exact ⟨k + 1, by omega, by omega, by go_num, T3.out⟩
    · have hlt' : ¬ (k : Int) < (ks.length : Int) := by omega
      go_wp2
      go_ret
      exact ⟨rfl, TR.out⟩
end Go.Proofs.YtjjgbcjgmjggnaaGreatDoor

namespace Go.Proofs.YtjjgbcjgmjggnaaGreatDoor
open Go.RowKit
set_option linter.unusedVariables false
set_option maxRecDepth 100000

theorem cap_of {w : World} {g off c n : Nat} {rs : List Int} (h : RowAt w (.slice (some ⟨g, off, none⟩) n c) rs) : n = rs.length ∧ n ≤ c ∧ c ≤ maxLen := by
  rcases h with ⟨h, _⟩ | ⟨g', off', c', h, h1, h2, _⟩
  · cases h
  · cases h; exact ⟨rfl, h1, h2⟩
theorem drop_row {w : World} {g off c n : Nat} {rs : List Int} (h : RowAt w (.slice (some ⟨g, off, none⟩) n c) rs) (m : Nat) (hm : m ≤ n) : RowAt w (.slice (some ⟨g, off + m, none⟩) (n - m) (c - m)) (rs.drop m) := by
  rcases h with ⟨h, _⟩ | ⟨g', off', c', h, h1, h2, h3⟩
  · cases h
  · cases h
    refine Or.inr ⟨g, off + m, c - m, by simp, by simp; omega, by omega, fun j u hj => ?_⟩
    rw [Nat.add_assoc]
    refine h3 (m + j) u ?_
    simpa [bytesOf, List.getElem?_drop] using hj
theorem take_row {w : World} {g off c n : Nat} {rs : List Int} (h : RowAt w (.slice (some ⟨g, off, none⟩) n c) rs) (m : Nat) (hm : m ≤ n) : RowAt w (.slice (some ⟨g, off, none⟩) m c) (rs.take m) := by
  rcases h with ⟨h, _⟩ | ⟨g', off', c', h, h1, h2, h3⟩
  · cases h
  · cases h
    refine Or.inr ⟨g, off, c, by simp; omega, by simp; omega, by omega, fun j u hj => ?_⟩
    refine h3 j u ?_
    simp only [bytesOf, List.getElem?_map, List.getElem?_take] at hj ⊢
    split at hj
    · exact hj
    · simp at hj
theorem empty_arg (w : World) (ad : Addr) (c : Nat) (hc : c ≤ maxLen) : ArgAt w (.slice (some ad) 0 c) [] := Or.inr ⟨ad, c, rfl, Nat.zero_le _, hc, fun j u hj => by simp [bytesOf] at hj⟩

/-- b[i:j], of a row that is not empty. -/
theorem cut_mid {w : World} {va : Option Addr} {vc n : Nat} {rs : List Int} (h : ArgAt w (.slice va n vc) rs) (hn : n = rs.length) (hp : 0 < n) (i j : Nat) (hij : i ≤ j) (hj : j ≤ n) :
    ∃ v, (∀ w, Sem.run Tryz.prog (Instr.slice 22 (.slice va n vc) (some (.int .i64 (i : Int))) (some (.int .i64 (j : Int))) none) w = .ok v w) ∧ ArgAt w v ((rs.drop i).take (j - i)) := by
  subst hn
  have hr := h.row hp
  obtain ⟨ga, oa, rfl⟩ := rowAt_some hr hp
  obtain ⟨-, hc1, hc2⟩ := cap_of hr
  have hc2' : (vc : Int) ≤ 9223372036854775807 := by unfold maxLen at hc2; omega
  have h0 : (0 : Int) ≤ (i : Int) := by omega
  have h0' : (0 : Int) ≤ (j : Int) := by omega
  have h1 : (j : Int) ≤ (vc : Int) := by omega
  have h2 : (i : Int) ≤ (j : Int) := by omega
  by_cases hz : vc = i
  · refine ⟨.slice (some ⟨ga, oa, none⟩) (j - i) (vc - i), fun w => ?_, ?_⟩
    · simp [Instr.slice, Instr.sliceBounds, Instr.sliceBound, go_sem, h0, h0', hz]
      rw [if_pos (by omega), if_pos (by omega)]
    · have : j - i = 0 := by omega
      rw [this, List.take_zero]
      exact empty_arg w _ _ (by unfold maxLen; omega)
  · refine ⟨.slice (some ⟨ga, oa + i, none⟩) (j - i) (vc - i), fun w => ?_, (take_row (drop_row hr i (by omega)) (j - i) (by omega)).arg⟩
    simp [Instr.slice, Instr.sliceBounds, Instr.sliceBound, go_sem, h0, h0', hz]
    rw [if_pos (by omega), if_pos hij]
/-- b[i:]. -/
theorem cut_from {w : World} {va : Option Addr} {vc n : Nat} {rs : List Int} (h : ArgAt w (.slice va n vc) rs) (hn : n = rs.length) (hp : 0 < n) (i : Nat) (hi : i ≤ n) :
    ∃ v, (∀ w, Sem.run Tryz.prog (Instr.slice 22 (.slice va n vc) (some (.int .i64 (i : Int))) none none) w = .ok v w) ∧ ArgAt w v (rs.drop i) := by
  subst hn
  have hr := h.row hp
  obtain ⟨ga, oa, rfl⟩ := rowAt_some hr hp
  obtain ⟨-, hc1, hc2⟩ := cap_of hr
  have hc2' : (vc : Int) ≤ 9223372036854775807 := by unfold maxLen at hc2; omega
  have h0 : (0 : Int) ≤ (i : Int) := by omega
  have h2 : (i : Int) ≤ (rs.length : Int) := by omega
  have h3 : (rs.length : Int) ≤ (vc : Int) := by omega
  by_cases hz : vc = i
  · refine ⟨.slice (some ⟨ga, oa, none⟩) (rs.length - i) (vc - i), fun w => ?_, ?_⟩
    · simp [Instr.slice, Instr.sliceBounds, Instr.sliceBound, go_sem, h0, hz]
      omega
    · have : rs.length - i = 0 := by omega
      rw [this, List.drop_eq_nil_of_le (by omega)]
      exact empty_arg w _ _ (by unfold maxLen; omega)
  · refine ⟨.slice (some ⟨ga, oa + i, none⟩) (rs.length - i) (vc - i), fun w => ?_, (drop_row hr i hi).arg⟩
    simp [Instr.slice, Instr.sliceBounds, Instr.sliceBound, go_sem, h0, hz]
    omega
/-- b[:j]. -/
theorem cut_to {w : World} {va : Option Addr} {vc n : Nat} {rs : List Int} (h : ArgAt w (.slice va n vc) rs) (hn : n = rs.length) (hp : 0 < n) (j : Nat) (hj : j ≤ n) :
    ∃ v, (∀ w, Sem.run Tryz.prog (Instr.slice 22 (.slice va n vc) none (some (.int .i64 (j : Int))) none) w = .ok v w) ∧ ArgAt w v (rs.take j) := by
  subst hn
  have hr := h.row hp
  obtain ⟨ga, oa, rfl⟩ := rowAt_some hr hp
  obtain ⟨-, hc1, hc2⟩ := cap_of hr
  have hc2' : (vc : Int) ≤ 9223372036854775807 := by unfold maxLen at hc2; omega
  have h0 : (0 : Int) ≤ (j : Int) := by omega
  have h1 : (j : Int) ≤ (vc : Int) := by omega
  have hne : ¬ vc = 0 := by omega
  refine ⟨.slice (some ⟨ga, oa, none⟩) j vc, fun w => ?_, (take_row hr j hj).arg⟩
  simp [Instr.slice, Instr.sliceBounds, Instr.sliceBound, go_sem, h0]
  intro hh; omega
end Go.Proofs.YtjjgbcjgmjggnaaGreatDoor

namespace Go.Proofs.YtjjgbcjgmjggnaaGreatDoor
open Go.RowKit
set_option linter.unusedVariables false
set_option maxRecDepth 100000

/-- Bytes that are written out. -/
theorem lit_arg (w : World) (l : List Int) (C : Array Value) (hC : C.toList = bytesOf l) (hl : l.length ≤ 1000) : ArgAt (w.alloc (.cells C 5)) (.slice (some ⟨w.heap.size, 0, none⟩) l.length l.length) l :=
  Or.inr ⟨⟨w.heap.size, 0, none⟩, l.length, rfl, Nat.le_refl _, by unfold maxLen; omega, src_new w C 5 0 l (by simpa using hC)⟩
theorem say_list (rs ds : List Int) (kd : Int) (h : 0 ≤ kd ∧ kd < 256) : (([] ++ rs.take 12) ++ [0, 0, 0, kd]) ++ ds ++ rs.drop 24 = sayB rs 0 kd ds := by
  unfold sayB
  have e : numBytes 2 kd = [0, kd] := by rw [numBytes2]; congr 1; omega; congr 1; omega
  rw [e, numBytes2]
  simp
set_option maxHeartbeats 1000000 in
theorem rsigned_any (v vd : Value) (rs ds : List Int) (kd : Int) (w : World) (hv : ArgAt w v rs) (hd : ArgAt w vd ds) (h24 : 24 ≤ rs.length) (hl : rs.length ≤ 1000000) (hdl : ds.length = 8) (hkd : 0 ≤ kd ∧ kd < 256) :
    Calls Tryz.prog 28 #[v, .int .u8 kd, vd] w fun e w' => ∃ u, e = .returned u ∧ Buf w w' u (sayB rs 0 kd ds) := by
  obtain ⟨va, vc, rfl, -⟩ := hv.form
  obtain ⟨da, dc, rfl, -⟩ := hd.form
  obtain ⟨u1, s1, a1⟩ := cut_to hv rfl (by omega) 12 (by omega)
  obtain ⟨u2, s2, a2⟩ := cut_from hv rfl (by omega) 24 (by omega)
  have q1 : ∀ w, Sem.run Tryz.prog (Instr.slice 22 (.slice va rs.length vc) none (some (.int .i64 12)) none) w = .ok u1 w := s1
  have q2 : ∀ w, Sem.run Tryz.prog (Instr.slice 22 (.slice va rs.length vc) (some (.int .i64 24)) none none) w = .ok u2 w := s2
  have A1 : Hid (∀ w', Touch (fun _ => False) w w' → ArgAt w' u1 (rs.take 12)) := fun w' t => a1.keep t (fun _ _ h => h)
  have A2 : Hid (∀ w', Touch (fun _ => False) w w' → ArgAt w' u2 (rs.drop 24)) := fun w' t => a2.keep t (fun _ _ h => h)
  have AD : Hid (∀ w', Touch (fun _ => False) w w' → ArgAt w' (.slice da ds.length dc) ds) := fun w' t => hd.keep t (fun _ _ h => h)
  have HL : Hid (24 ≤ rs.length ∧ rs.length ≤ 1000000 ∧ ds.length = 8) := ⟨h24, hl, hdl⟩
  have HS : Hid ((([] ++ rs.take 12) ++ [0, 0, 0, kd]) ++ ds ++ rs.drop 24 = sayB rs 0 kd ds) := say_list rs ds kd hkd
  clear hv hd s1 s2 a1 a2 h24 hl hdl hkd
  go_enter Tryz.func28, Tryz.ntmps28
  go_upto_region 3 with (at_builtin; refine app_arg rfl (.tmp 8) (.tmp 10) rfl w _ [] rfl (Buf.nil (Touch.refl _ _)) _ (rs.take 12) rfl (A1.out w (Touch.refl _ _)) (by have := HL.out; simp; omega) ?_; intro p1 w1 b1)
  have B1 : Hid _ := b1
  have L1 : Hid (ArgAt (w1.alloc (.cells #[.int .u8 0, .int .u8 0, .int .u8 0, .int .u8 kd] 5)) (.slice (some ⟨w1.heap.size, 0, none⟩) 4 4) [0, 0, 0, kd]) := lit_arg w1 [0, 0, 0, kd] #[.int .u8 0, .int .u8 0, .int .u8 0, .int .u8 kd] (by simp [bytesOf]) (by simp)
  clear b1
  go_upto_region 4 with (at_builtin; refine app_arg rfl (.tmp 12) (.tmp 14) rfl w _ _ rfl (B1.out.keep ((Touch.refl _ _).alloc _)) _ [0, 0, 0, kd] rfl L1.out (by have := HL.out; simp; omega) ?_; intro p2 w2 b2)
  have B2 : Hid _ := b2
  clear b2 B1 L1
  go_upto_region 5 with (at_builtin; refine app_arg rfl (.tmp 16) (.tmp 17) rfl w _ _ rfl B2.out _ ds rfl (AD.out w2 B2.out.t) (by have := HL.out; simp; omega) ?_; intro p3 w3 b3)
  have B3 : Hid _ := b3
  clear b3 B2
  go_wp2_with (at_builtin; refine app_arg rfl (.tmp 19) (.tmp 21) rfl w _ _ rfl B3.out _ (rs.drop 24) rfl (A2.out w3 B3.out.t) (by have := HL.out; simp; omega) ?_; intro p4 w4 b4)
  have B4 : Hid (Buf w w4 p4 (sayB rs 0 kd ds)) := by show Buf _ _ _ _; rw [← HS.out]; exact b4
  clear b4 B3
  go_wp2_with fail
  go_ret
  exact ⟨_, rfl, B4.out⟩
end Go.Proofs.YtjjgbcjgmjggnaaGreatDoor

namespace Go.Proofs.YtjjgbcjgmjggnaaGreatDoor
open Go.RowKit
set_option linter.unusedVariables false
set_option maxRecDepth 100000

/-- A head's numbers. -/
structure HV where
  age : Int
  opts : Int
  typ : Int
  id : Int
  adv : Int
  seq : Int
  sum : Int
  len : Int
def HV.v (h : HV) : Value := .agg #[.int .u16 h.age, .int .u8 h.opts, .int .u8 h.typ, .int .u32 h.id, .int .u32 h.adv, .int .i32 h.seq, .int .u16 h.sum, .int .u16 h.len]
/-- Its age and number fit their kinds. -/
structure HV.Ok (h : HV) : Prop where
  a0 : 0 ≤ h.age
  a1 : h.age < 65536
  s0 : -2147483648 ≤ h.seq
  s1 : h.seq ≤ 2147483647
/-- A key's numbers. -/
structure KV where
  typ : Int
  id : Int
  adv : Int
def KV.v (h : KV) : Value := .agg #[.int .u8 h.typ, .int .u32 h.id, .int .u32 h.adv]
structure KV.Ok (h : KV) : Prop where
  t : 0 ≤ h.typ ∧ h.typ < 256
  i : 0 ≤ h.id ∧ h.id < 4294967296
  a : 0 ≤ h.adv ∧ h.adv < 4294967296
structure Ky (w : World) (g : Nat) (h : KV) : Prop where
  c0 : w.cell? ⟨g, 0, none⟩ = some (.int .u8 h.typ)
  c1 : w.cell? ⟨g, 1, none⟩ = some (.int .u32 h.id)
  c2 : w.cell? ⟨g, 2, none⟩ = some (.int .u32 h.adv)
theorem Ky.keep {w w' : World} {g : Nat} {h : KV} (k : Ky w g h) (t : Touch (fun _ => False) w w') : Ky w' g h := ⟨t.cellN k.c0, t.cellN k.c1, t.cellN k.c2⟩
theorem Ky.new (w : World) (h : KV) (t : TypeId) : Ky (w.alloc (.cells #[.int .u8 h.typ, .int .u32 h.id, .int .u32 h.adv] t)) w.heap.size h :=
  ⟨by simp [go_sem], by simp [go_sem], by simp [go_sem]⟩
/-- It lies in block g. -/
structure Hd (w : World) (g : Nat) (h : HV) : Prop where
  c0 : w.cell? ⟨g, 0, none⟩ = some (.int .u16 h.age)
  c1 : w.cell? ⟨g, 1, none⟩ = some (.int .u8 h.opts)
  c2 : w.cell? ⟨g, 2, none⟩ = some (.int .u8 h.typ)
  c3 : w.cell? ⟨g, 3, none⟩ = some (.int .u32 h.id)
  c4 : w.cell? ⟨g, 4, none⟩ = some (.int .u32 h.adv)
  c5 : w.cell? ⟨g, 5, none⟩ = some (.int .i32 h.seq)
  c6 : w.cell? ⟨g, 6, none⟩ = some (.int .u16 h.sum)
  c7 : w.cell? ⟨g, 7, none⟩ = some (.int .u16 h.len)
theorem Hd.keep {w w' : World} {g : Nat} {h : HV} (k : Hd w g h) (t : Touch (fun _ => False) w w') : Hd w' g h :=
  ⟨t.cellN k.c0, t.cellN k.c1, t.cellN k.c2, t.cellN k.c3, t.cellN k.c4, t.cellN k.c5, t.cellN k.c6, t.cellN k.c7⟩
theorem Hd.new (w : World) (h : HV) (t : TypeId) :
    Hd (w.alloc (.cells #[.int .u16 h.age, .int .u8 h.opts, .int .u8 h.typ, .int .u32 h.id, .int .u32 h.adv, .int .i32 h.seq, .int .u16 h.sum, .int .u16 h.len] t)) w.heap.size h :=
  ⟨by simp [go_sem], by simp [go_sem], by simp [go_sem], by simp [go_sem], by simp [go_sem], by simp [go_sem], by simp [go_sem], by simp [go_sem]⟩
end Go.Proofs.YtjjgbcjgmjggnaaGreatDoor
