
/- Tick. -/
import Derived.Test.YtedolfggbgmklaaSpPk
namespace Go.Proofs.Ytedolfggbgmklaa
open Go.RowKit
set_option linter.unusedVariables false
set_option maxRecDepth 100000

theorem LSt.setW {w : World} {L m e : Nat} {rx wt : Int} {l : List It} (h : LSt w L m e rx wt l) (wt' : Int) : LSt (w.setCell ⟨L, 1, none⟩ (.int .u16 wt')) L m e rx wt' l := by
  have nd := h.nd
  have nL : ∀ k, (k = m ∨ k = e ∨ ∃ i ∈ l, k = i.b) → k ≠ L := by
    rintro k hk rfl
    refine (List.nodup_cons.1 nd).1 ?_
    rcases hk with rfl | rfl | ⟨i, hi, q⟩
    · simp
    · simp
    · exact List.mem_cons_of_mem _ (List.mem_cons_of_mem _ (List.mem_map.2 ⟨i, hi, q.symm⟩))
  have T : Touch (fun k => k = L) w (w.setCell ⟨L, 1, none⟩ (.int .u16 wt')) := (Touch.refl (fun k => k = L) w).setCell (p := ⟨L, 1, none⟩) (Or.inl rfl) _
  exact ⟨h.row.set 1 (.int .u16 wt'), h.map.keep T (nL m (Or.inl rfl)), ⟨h.ring.ends.other (p := ⟨L, 1, none⟩) (nL e (Or.inr (Or.inl rfl))) _, h.ring.seg.other (fun j hj => nL j.b (Or.inr (Or.inr ⟨j, hj, rfl⟩)))⟩, nd, h.ky, h.ok⟩
set_option maxHeartbeats 1000000 in
theorem ltick_empty (w : World) (L m e : Nat) (rx wt : Int) (l : List It) (h : LSt w L m e rx wt l) (hr : rx ≠ 0) (hl : l = []) : Calls Try.prog 25 #[.pointer (some ⟨L, 0, none⟩)] w fun e' w' => e' = .returned (.slice none 0 0) ∧ w = w' := by
  have HM := lmade_yes w L rx hr (h.row.cell 0)
  have hm := h.map.runLen
  have c1 : w.cell? ⟨L, 1, none⟩ = some (.int .u16 wt) := h.row.cell 1
  have c0 : w.cell? ⟨L, 0, none⟩ = some (.int .u16 rx) := h.row.cell 0
  have c2 : w.cell? ⟨L, 2, none⟩ = some (.map (some m)) := h.row.cell 2
  have hf : w.frozen? ⟨L, 1, none⟩ = false := h.row.frozen 1
  have hL := h.row.lt
  obtain ⟨N, hN⟩ : ∃ N : Int, (l.length : Int) = N := ⟨_, rfl⟩
  rw [hN] at hm
  have hNb : (N == 0) = true := by rw [← hN, hl]; rfl
  clear h hr hl hN
  go_enter Try.func25, Try.ntmps25
  go_wp2_with fail
  refine Calls.mono HM ?_
  rintro e' w1 ⟨rfl, rfl⟩
  go_wp2_with fail
  go_ret
  exact ⟨rfl, rfl⟩
set_option maxHeartbeats 2000000 in
theorem ltick_wait (w : World) (L m e : Nat) (rx wt : Int) (l : List It) (h : LSt w L m e rx wt l) (hr : rx ≠ 0) (hl : l ≠ []) (h0 : 0 ≤ wt) (h1 : wt + 1 < rx) (h2 : rx < 65536) : Calls Try.prog 25 #[.pointer (some ⟨L, 0, none⟩)] w fun e' w' => e' = .returned (.slice none 0 0) ∧ LSt w' L m e rx (wt + 1) l ∧ Touch (fun k => k = L) w w' := by
  have HM := lmade_yes w L rx hr (h.row.cell 0)
  have hm := h.map.runLen
  have c1 : w.cell? ⟨L, 1, none⟩ = some (.int .u16 wt) := h.row.cell 1
  have c0 : w.cell? ⟨L, 0, none⟩ = some (.int .u16 rx) := h.row.cell 0
  have c2 : w.cell? ⟨L, 2, none⟩ = some (.map (some m)) := h.row.cell 2
  have hf : w.frozen? ⟨L, 1, none⟩ = false := h.row.frozen 1
  have hL := h.row.lt
  obtain ⟨N, hN⟩ : ∃ N : Int, (l.length : Int) = N := ⟨_, rfl⟩
  rw [hN] at hm
  have hNb : (N == 0) = false := by rw [← hN]; simpa using hl
  have HS2 : Hid (LSt (w.setCell ⟨L, 1, none⟩ (.int .u16 (wt + 1))).drew L m e rx (wt + 1) l) := (h.setW (wt + 1)).keepN ((Touch.refl _ _).drew)
  have T2 : Hid (Touch (fun k => k = L) w (w.setCell ⟨L, 1, none⟩ (.int .u16 (wt + 1))).drew) := ((Touch.refl (fun k => k = L) w).setCell (p := ⟨L, 1, none⟩) (Or.inl rfl) _).drew
  have hwr : (wt + 1) % 65536 = wt + 1 := by omega
  clear h hr hl hN
  go_enter Try.func25, Try.ntmps25
  go_wp2_with fail
  refine Calls.mono HM ?_
  rintro e' w1 ⟨rfl, rfl⟩
  go_wp2_with fail
  go_region
  all_goals go_wp2_with fail
  all_goals go_ret
  all_goals exact ⟨rfl, HS2.out, T2.out⟩
set_option maxHeartbeats 2000000 in
theorem ltick_send (w : World) (L m e : Nat) (rx wt : Int) (l : List It) (h : LSt w L m e rx wt l) (hr : rx ≠ 0) (hl : l ≠ []) (h0 : 0 ≤ wt) (h1 : ¬ (wt + 1 < rx)) (h2 : wt + 1 < 65536) (hsum : ∀ k, k ≤ l.length → 0 ≤ leftI l k) (hlen : l.length ≤ 1000000)
    (HC : ∀ i ∈ l, (∃ a n c, i.v = .slice a n c) ∧ ∀ w', Touch (fun k => k = L ∨ w.heap.size ≤ k) w w' → Calls Try.prog 50 #[i.v] w' fun e w'' => ∃ ua un uc, e = .returned (.slice ua un uc) ∧ Touch (fun _ => False) w' w'') :
    Calls Try.prog 25 #[.pointer (some ⟨L, 0, none⟩)] w fun e' w' => ∃ v ps, e' = .returned v ∧ w'.ownsRow w.heap.size 53 9 v l.length (cellsP ps) ∧ ps.map Prod.fst = l.map (fun i => i.h) ∧ LSt w' L m e rx 0 l ∧ Touch (fun k => k = L) w w' := by
  have HM := lmade_yes w L rx hr (h.row.cell 0)
  have hm := h.map.runLen
  have c1 : w.cell? ⟨L, 1, none⟩ = some (.int .u16 wt) := h.row.cell 1
  have c0 : w.cell? ⟨L, 0, none⟩ = some (.int .u16 rx) := h.row.cell 0
  have c2 : w.cell? ⟨L, 2, none⟩ = some (.map (some m)) := h.row.cell 2
  have hf : w.frozen? ⟨L, 1, none⟩ = false := h.row.frozen 1
  have hL := h.row.lt
  obtain ⟨N, hN⟩ : ∃ N : Int, (l.length : Int) = N := ⟨_, rfl⟩
  rw [hN] at hm
  have hNb : (N == 0) = false := by rw [← hN]; simpa using hl
  obtain ⟨w3, hw3⟩ : ∃ w3, w3 = ((w.setCell ⟨L, 1, none⟩ (.int .u16 (wt + 1))).setCell ⟨L, 1, none⟩ (.int .u16 0)).drew := ⟨_, rfl⟩
  have HS3 : LSt w3 L m e rx 0 l := by rw [hw3]; exact ((h.setW (wt + 1)).setW 0).keepN ((Touch.refl _ _).drew)
  have T3 : Touch (fun k => k = L) w w3 := by rw [hw3]; exact (((Touch.refl (fun k => k = L) w).setCell (p := ⟨L, 1, none⟩) (Or.inl rfl) _).setCell (p := ⟨L, 1, none⟩) (Or.inl rfl) _).drew
  have hsz : w3.heap.size = w.heap.size := by rw [hw3]; simp
  have HP : Hid (Calls Try.prog 42 #[.pointer (some ⟨L, 0, none⟩)] w3 fun e' w' => ∃ v ps, e' = .returned v ∧ w'.ownsRow w.heap.size 53 9 v l.length (cellsP ps) ∧ ps.map Prod.fst = l.map (fun i => i.h) ∧ LSt w' L m e rx 0 l ∧ Touch (fun k => k = L) w w') := by
    have := packet_any w3 L m e rx 0 l HS3 hsum hlen (fun i hi => ⟨(HC i hi).1, fun w' t => (HC i hi).2 w' ((T3.mono (fun k _ q => Or.inl q)).trans (t.mono (fun k _ q => Or.inr (by omega))))⟩)
    rw [hsz] at this
    exact this.mono fun e' w' ⟨v, ps, a1, a2, a3, a4⟩ => ⟨v, ps, a1, a2, a3, HS3.keepN a4, T3.trans' a4 (fun _ _ f => f.elim)⟩
  have HW3 : Hid (w3 = ((w.setCell ⟨L, 1, none⟩ (.int .u16 (wt + 1))).setCell ⟨L, 1, none⟩ (.int .u16 0)).drew) := hw3
  have hwr : (wt + 1) % 65536 = wt + 1 := by omega
  clear h hr hl hN hw3 HS3 T3 hsz HC hsum
  go_enter Try.func25, Try.ntmps25
  go_wp2_with fail
  refine Calls.mono HM ?_
  rintro e' w1 ⟨rfl, rfl⟩
  go_wp2_with fail
  go_region
  go_wp2_with fail
  rw [← HW3.out]
  refine Calls.mono HP.out ?_
  rintro e' w5 ⟨v, ps, rfl, hrest⟩
  have HR : Hid (w5.ownsRow w.heap.size 53 9 v l.length (cellsP ps) ∧ ps.map Prod.fst = l.map (fun i => i.h) ∧ LSt w5 L m e rx 0 l ∧ Touch (fun k => k = L) w w5) := hrest
  clear hrest HP HW3 hm
  go_wp2_with fail
  go_ret
  exact ⟨v, ps, rfl, HR.out⟩
end Go.Proofs.Ytedolfggbgmklaa
