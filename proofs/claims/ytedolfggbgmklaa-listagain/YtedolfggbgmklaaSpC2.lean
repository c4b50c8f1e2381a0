
/- A place less. -/
import Derived.Test.YtedolfggbgmklaaSpC1
namespace Go.Proofs.Ytedolfggbgmklaa
open Go.RowKit
set_option linter.unusedVariables false
set_option maxRecDepth 100000

theorem Ring.any {w : World} {e : Nat} {l : List It} (h : Ring w e l) {k : Nat} (hk : k = e ∨ ∃ i ∈ l, k = i.b) : ∃ x v p n, Row w k 72 (HV.pl x v p n) := by
  rcases hk with rfl | ⟨i, hi, rfl⟩
  · exact ⟨_, _, _, _, h.ends⟩
  · obtain ⟨l1, l2, rfl⟩ := List.append_of_mem hi
    exact ⟨_, _, _, _, h.seg.row⟩
theorem lst_mem : ∀ (l : List It) (e : Nat), lst e l = e ∨ ∃ i ∈ l, lst e l = i.b
  | [], _ => Or.inl rfl
  | i :: l, e => by
    rcases lst_mem l i.b with h | ⟨j, hj, h⟩
    · exact Or.inr ⟨i, by simp, h⟩
    · exact Or.inr ⟨j, by simp [hj], h⟩
theorem nxt_mem : ∀ (l : List It) (e : Nat), nxt l e = e ∨ ∃ i ∈ l, nxt l e = i.b
  | [], _ => Or.inl rfl
  | i :: l, e => Or.inr ⟨i, by simp, rfl⟩
set_option maxHeartbeats 2000000 in
theorem lrem_none (w : World) (L m e : Nat) (rx wt : Int) (l : List It) (h : LSt w L m e rx wt l) (x : HV) (hx : x.Al) (hn : ∀ i ∈ l, i.h.ky ≠ x.ky) : Calls Try.prog 39 #[.pointer (some ⟨L, 0, none⟩), .agg #[.int .u8 x.typ, .int .u32 x.id, .int .u32 x.adv]] w fun e' w' => e' = .returned (.bool false) ∧ Touch (fun _ => False) w w' := by
  have T0 : Touch (fun _ => False) w (w.alloc (.cells #[.int .u8 x.typ, .int .u32 x.id, .int .u32 x.adv] 55)) := (Touch.refl _ _).alloc _
  have R0 : Row (w.alloc (.cells #[.int .u8 x.typ, .int .u32 x.id, .int .u32 x.adv] 55)) w.heap.size 55 [.int .u8 x.typ, .int .u32 x.id, .int .u32 x.adv] := row_new _ _ _
  obtain ⟨g, hg⟩ : ∃ g, w.heap.size = g := ⟨_, rfl⟩
  rw [hg] at R0
  have HS0 := h.keepN T0
  go_enter Try.func39, Try.ntmps39
  go_wp2_with fail
  generalize (w.alloc (.cells #[.int .u8 x.typ, .int .u32 x.id, .int .u32 x.adv] 55)) = w0 at *
  have q0 : w0.cell? ⟨L, 2, none⟩ = some (.map (some m)) := HS0.row.cell 2
  have k0 : w0.cell? ⟨g, 0, none⟩ = some (.int .u8 x.typ) := R0.cell 0
  have k1 : w0.cell? ⟨g, 1, none⟩ = some (.int .u32 x.id) := R0.cell 1
  have k2 : w0.cell? ⟨g, 2, none⟩ = some (.int .u32 x.adv) := R0.cell 2
  have hL := HS0.row.lt
  have hk := R0.lt
  have hl1 : (Instr.lookup 61 (.map (some m)) (.agg #[.int .u8 x.typ, .int .u32 x.id, .int .u32 x.adv]) true).run Try.prog w0.drew = _ := (HS0.map.keep ((Touch.refl (fun _ => False) w0).drew) (fun h => h)).miss h.ok hx hn
  have T1 : Hid (Touch (fun _ => False) w w0.drew) := T0.drew
  clear h hx hn hg HS0 T0 R0
  go_cut [5, 6] (fun s5 s6 wx => s5 = .pointer none ∧ s6 = .bool false ∧ wx = w0.drew)
  case first =>
    go_region
    all_goals go_wp2_with fail
    all_goals go_meet
    all_goals exact ⟨rfl, rfl, rfl⟩
  case rest =>
    obtain ⟨rfl, rfl, rfl⟩ := hcut
    go_wp2_with fail
    go_ret
    exact ⟨rfl, T1.out⟩
set_option maxHeartbeats 4000000 in
theorem lrem_some (w : World) (L m e : Nat) (rx wt : Int) (l1 l2 : List It) (i : It) (h : LSt w L m e rx wt (l1 ++ i :: l2)) (x : HV) (hx : x.Al) (hi : i.h.ky = x.ky) : Calls Try.prog 39 #[.pointer (some ⟨L, 0, none⟩), .agg #[.int .u8 x.typ, .int .u32 x.id, .int .u32 x.adv]] w fun e' w' => e' = .returned (.bool true) ∧ LSt w' L m e rx wt (l1 ++ l2) ∧ Touch (LB L m e (l1 ++ i :: l2)) w w' := by
  have T0 : Touch (fun _ => False) w (w.alloc (.cells #[.int .u8 x.typ, .int .u32 x.id, .int .u32 x.adv] 55)) := (Touch.refl _ _).alloc _
  have R0 : Row (w.alloc (.cells #[.int .u8 x.typ, .int .u32 x.id, .int .u32 x.adv] 55)) w.heap.size 55 [.int .u8 x.typ, .int .u32 x.id, .int .u32 x.adv] := row_new _ _ _
  obtain ⟨g, hg⟩ : ∃ g, w.heap.size = g := ⟨_, rfl⟩
  rw [hg] at R0
  have HS0 := h.keepN T0
  go_enter Try.func39, Try.ntmps39
  go_wp2_with fail
  generalize (w.alloc (.cells #[.int .u8 x.typ, .int .u32 x.id, .int .u32 x.adv] 55)) = w0 at *
  have q0 : w0.cell? ⟨L, 2, none⟩ = some (.map (some m)) := HS0.row.cell 2
  have k0 : w0.cell? ⟨g, 0, none⟩ = some (.int .u8 x.typ) := R0.cell 0
  have k1 : w0.cell? ⟨g, 1, none⟩ = some (.int .u32 x.id) := R0.cell 1
  have k2 : w0.cell? ⟨g, 2, none⟩ = some (.int .u32 x.adv) := R0.cell 2
  have hL := HS0.row.lt
  have hk := R0.lt
  have hl1 : (Instr.lookup 61 (.map (some m)) (.agg #[.int .u8 x.typ, .int .u32 x.id, .int .u32 x.adv]) true).run Try.prog w0.drew = .ok (.tuple #[.pointer (some ⟨i.b, 0, none⟩), .bool true]) w0.drew := (HS0.map.keep ((Touch.refl (fun _ => False) w0).drew) (fun h => h)).hit h.ok h.ky hx hi
  have hgs : Hid (w.heap.size = g) := hg
  have X : Hid (LSt w L m e rx wt (l1 ++ i :: l2) ∧ x.Al ∧ i.h.ky = x.ky ∧ Touch (fun _ => False) w w0.drew ∧ LSt w0.drew L m e rx wt (l1 ++ i :: l2) ∧ Row w0.drew g 55 [.int .u8 x.typ, .int .u32 x.id, .int .u32 x.adv]) := ⟨h, hx, hi, T0.drew, HS0.keepN ((Touch.refl _ _).drew), R0.keep ((Touch.refl _ _).drew)⟩
  clear h hx hi hg HS0 T0 R0
  generalize hib : i.b = ib at *
  go_cut [5, 6] (fun s5 s6 wx => s5 = .pointer (some ⟨ib, 0, none⟩) ∧ s6 = .bool true ∧ wx = w0.drew)
  case first =>
    go_region
    all_goals go_wp2_with fail
    all_goals go_meet
    all_goals exact ⟨rfl, rfl, rfl⟩
  case rest =>
    obtain ⟨rfl, rfl, rfl⟩ := hcut
    obtain ⟨h, hx, hi, T1, HS1, R1⟩ := X.out
    clear hl1 q0 k0 k1 k2 hk hL X
    subst hib
    generalize w0.drew = w1 at *
    have nd := HS1.nd
    have nd3 : (e :: (l1 ++ i :: l2).map (·.b)).Nodup := (List.nodup_cons.1 (List.nodup_cons.1 nd).2).2
    have RI := HS1.ring.seg.row
    have RD := HS1.ring.del nd3
    have mu := lst_mem l1 e
    have mv := nxt_mem l2 e
    obtain ⟨yu, vu, pu, nu, RU⟩ := HS1.ring.any (k := lst e l1) (mu.imp id (fun ⟨j, hj, q⟩ => ⟨j, by simp [hj], q⟩))
    obtain ⟨yv, vv, pv, nv, RV⟩ := HS1.ring.any (k := nxt l2 e) (mv.imp id (fun ⟨j, hj, q⟩ => ⟨j, by simp [hj], q⟩))
    have bu : LB L m e (l1 ++ i :: l2) (lst e l1) := Or.inr (Or.inr (mu.imp id (fun ⟨j, hj, q⟩ => ⟨j, by simp [hj], q⟩)))
    have bv : LB L m e (l1 ++ i :: l2) (nxt l2 e) := Or.inr (Or.inr (mv.imp id (fun ⟨j, hj, q⟩ => ⟨j, by simp [hj], q⟩)))
    have hne : ∀ k, (k = e ∨ ∃ j ∈ l1 ++ i :: l2, k = j.b) → k ≠ L ∧ k ≠ m := by
      rintro k (rfl | ⟨j, hj, rfl⟩)
      · refine ⟨fun q => (List.nodup_cons.1 nd).1 (by simp [q]), fun q => (List.nodup_cons.1 (List.nodup_cons.1 nd).2).1 (by simp [q])⟩
      · exact ⟨fun q => (List.nodup_cons.1 nd).1 (List.mem_cons_of_mem _ (List.mem_cons_of_mem _ (List.mem_map.2 ⟨j, hj, q⟩))), fun q => (List.nodup_cons.1 (List.nodup_cons.1 nd).2).1 (List.mem_cons_of_mem _ (List.mem_map.2 ⟨j, hj, q⟩))⟩
    have hu := hne (lst e l1) (mu.imp id (fun ⟨j, hj, q⟩ => ⟨j, by simp [hj], q⟩))
    have hv := hne (nxt l2 e) (mv.imp id (fun ⟨j, hj, q⟩ => ⟨j, by simp [hj], q⟩))
    have gu : lst e l1 ≠ g := by
      have h1 := hgs.out
      obtain ⟨y1, y2, y3, y4, y5⟩ := h.ring.any (k := lst e l1) (mu.imp id (fun ⟨j, hj, q⟩ => ⟨j, by simp [hj], q⟩))
      have := y5.lt
      omega
    have gv : nxt l2 e ≠ g := by
      have h1 := hgs.out
      obtain ⟨y1, y2, y3, y4, y5⟩ := h.ring.any (k := nxt l2 e) (mv.imp id (fun ⟨j, hj, q⟩ => ⟨j, by simp [hj], q⟩))
      have := y5.lt
      omega
    generalize lst e l1 = u at *
    generalize nxt l2 e = v at *
    have c9 : w1.cell? ⟨i.b, 9, none⟩ = some (.pointer (some ⟨u, 0, none⟩)) := RI.cell 9
    have c10 : w1.cell? ⟨i.b, 10, none⟩ = some (.pointer (some ⟨v, 0, none⟩)) := RI.cell 10
    have d10 : w1.cell? ⟨u, 10, none⟩ = some (ptr nu) := RU.cell 10
    have d9 : w1.cell? ⟨v, 9, none⟩ = some (ptr pv) := RV.cell 9
    have fu := RU.frozen
    have fv := RV.frozen
    have hI := RI.lt
    have hU := RU.lt
    have hV := RV.lt
    have T2 : Touch (fun k => k = u ∨ k = v) w1 ((w1.setCell ⟨u, 10, none⟩ (ptr v)).setCell ⟨v, 9, none⟩ (ptr u)).drew := (((Touch.refl (fun k => k = u ∨ k = v) w1).setCell (p := ⟨u, 10, none⟩) (Or.inl (Or.inl rfl)) _).setCell (p := ⟨v, 9, none⟩) (Or.inl (Or.inr rfl)) _).drew
    have RL2 : Row ((w1.setCell ⟨u, 10, none⟩ (ptr v)).setCell ⟨v, 9, none⟩ (ptr u)).drew L 64 (LC rx wt m e) := (T2.block L HS1.row.lt (fun q => q.elim (fun q => hu.1 q.symm) (fun q => hv.1 q.symm))).trans HS1.row
    have RM2 : PM ((w1.setCell ⟨u, 10, none⟩ (ptr v)).setCell ⟨v, 9, none⟩ (ptr u)).drew m (l1 ++ i :: l2) := HS1.map.keep T2 (fun q => q.elim (fun q => hu.2 q.symm) (fun q => hv.2 q.symm))
    have RK2 : Row ((w1.setCell ⟨u, 10, none⟩ (ptr v)).setCell ⟨v, 9, none⟩ (ptr u)).drew g 55 [.int .u8 x.typ, .int .u32 x.id, .int .u32 x.adv] := (T2.block g R1.lt (fun q => q.elim (fun q => gu q.symm) (fun q => gv q.symm))).trans R1
    have RR2 : Ring ((w1.setCell ⟨u, 10, none⟩ (ptr v)).setCell ⟨v, 9, none⟩ (ptr u)).drew e (l1 ++ l2) := ⟨RD.ends, RD.seg.same (fun _ _ => rfl)⟩
    have TT : Touch (LB L m e (l1 ++ i :: l2)) w ((w1.setCell ⟨u, 10, none⟩ (ptr v)).setCell ⟨v, 9, none⟩ (ptr u)).drew := (T1.mono (fun _ _ f => f.elim)).trans' T2 (fun k _ q => q.elim (fun q => q ▸ bu) (fun q => q ▸ bv))
    have Y : Hid (x.Al ∧ i.h.ky = x.ky ∧ Row ((w1.setCell ⟨u, 10, none⟩ (ptr v)).setCell ⟨v, 9, none⟩ (ptr u)).drew L 64 (LC rx wt m e) ∧ PM ((w1.setCell ⟨u, 10, none⟩ (ptr v)).setCell ⟨v, 9, none⟩ (ptr u)).drew m (l1 ++ i :: l2) ∧ Row ((w1.setCell ⟨u, 10, none⟩ (ptr v)).setCell ⟨v, 9, none⟩ (ptr u)).drew g 55 [.int .u8 x.typ, .int .u32 x.id, .int .u32 x.adv] ∧ Ring ((w1.setCell ⟨u, 10, none⟩ (ptr v)).setCell ⟨v, 9, none⟩ (ptr u)).drew e (l1 ++ l2) ∧ Touch (LB L m e (l1 ++ i :: l2)) w ((w1.setCell ⟨u, 10, none⟩ (ptr v)).setCell ⟨v, 9, none⟩ (ptr u)).drew) := ⟨hx, hi, RL2, RM2, RK2, RR2, TT⟩
    have Z : Hid (LSt w L m e rx wt (l1 ++ i :: l2)) := h
    unfold ptr at Y
    unfold ptr at d9 d10
    clear h hx hi T1 HS1 R1 nd nd3 RI RD mu mv RU RV bu bv hne hu hv gu gv RL2 RM2 RK2 RR2 TT T2 hgs
    go_upto_region 4 with fail
    go_cut [] (fun wx => wx = ((w1.setCell ⟨u, 10, none⟩ (.pointer (some ⟨v, 0, none⟩))).setCell ⟨v, 9, none⟩ (.pointer (some ⟨u, 0, none⟩))).drew)
    case first =>
      go_region
      all_goals go_wp2_with fail
      all_goals go_meet
      all_goals rfl
    case rest =>
      subst hcut
      obtain ⟨hx, hi, RL2, RM2, RK2, RR2, TT⟩ := Y.out
      clear Y c9 c10 d9 d10 fu fv hI hU hV
      generalize ((w1.setCell ⟨u, 10, none⟩ (.pointer (some ⟨v, 0, none⟩))).setCell ⟨v, 9, none⟩ (.pointer (some ⟨u, 0, none⟩))).drew = w2 at *
      have q0 : w2.cell? ⟨L, 2, none⟩ = some (.map (some m)) := RL2.cell 2
      have k0 : w2.cell? ⟨g, 0, none⟩ = some (.int .u8 x.typ) := RK2.cell 0
      have k1 : w2.cell? ⟨g, 1, none⟩ = some (.int .u32 x.id) := RK2.cell 1
      have k2 : w2.cell? ⟨g, 2, none⟩ = some (.int .u32 x.adv) := RK2.cell 2
      have hL := RL2.lt
      have hk := RK2.lt
      obtain ⟨w3, hr, PM3, T3⟩ := (RM2.keep ((Touch.refl (fun _ => False) w2).drew) (fun h => h)).del Z.out.ok Z.out.ky hx hi 0
      have hr : (Builtin.delete_ #[61, 55] 0 #[.map (some m), .agg #[.int .u8 x.typ, .int .u32 x.id, .int .u32 x.adv]]).run Try.prog w2.drew = .ok (.tuple #[]) w3 := hr
      have nd := Z.out.nd
      have T4 : Touch (fun k => k = m) w2 w3 := (Touch.refl (fun k => k = m) w2).drew.trans T3
      have nL : L ≠ m := fun q => (List.nodup_cons.1 nd).1 (by simp [q])
      have nE : e ≠ m := fun q => (List.nodup_cons.1 (List.nodup_cons.1 nd).2).1 (by simp [q])
      have nP : ∀ j ∈ l1 ++ l2, j.b ≠ m := fun j hj q => (List.nodup_cons.1 (List.nodup_cons.1 nd).2).1 (List.mem_cons_of_mem _ (List.mem_map.2 ⟨j, by simp at hj ⊢; rcases hj with hj | hj; exact Or.inl hj; exact Or.inr (Or.inr hj), q⟩))
      have sub : List.Sublist (l1 ++ l2) (l1 ++ i :: l2) := List.Sublist.append (List.Sublist.refl _) (List.sublist_cons_self _ _)
      have rs : ∀ j ∈ l1 ++ l2, j.b < w2.heap.size := fun j hj => by
        obtain ⟨_, _, _, _, y⟩ := RR2.any (Or.inr ⟨j, hj, rfl⟩)
        exact y.lt
      have FIN : Hid (LSt w3 L m e rx wt (l1 ++ l2) ∧ Touch (LB L m e (l1 ++ i :: l2)) w w3) := by
        refine ⟨⟨(T4.block L RL2.lt nL).trans RL2, PM3, ⟨(T4.block e RR2.ends.lt nE).trans RR2.ends, RR2.seg.same (fun j hj => T4.block j.b (rs j hj) (nP j hj))⟩, ?_, List.Nodup.sublist (sub.map _) Z.out.ky, fun j hj => Z.out.ok j (sub.subset hj)⟩, TT.trans' T4 (fun k _ q => Or.inr (Or.inl q))⟩
        exact List.Nodup.sublist ((((sub.map _).cons_cons _).cons_cons _).cons_cons _) nd
      clear Z hx hi RL2 RM2 RK2 RR2 TT PM3 T3 T4 nd nL nE nP sub rs
      go_upto_region 5 with fail
      go_cut [] (fun wx => wx = w3)
      case first =>
        go_region
        all_goals go_wp2_with fail
        all_goals go_meet
        all_goals rfl
      case rest =>
        subst hcut
        clear hr q0 k0 k1 k2 hL hk
        go_wp2_with fail
        go_ret
        exact ⟨rfl, FIN.out⟩
end Go.Proofs.Ytedolfggbgmklaa
