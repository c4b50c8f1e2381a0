/- Apart of a Bag with five kinds; the lists of a hello, of a description, of a state are added. -/
import Derived.Test.YtbfplepmgbkajaaGreatDoorBagFive
import Derived.Test.YtbfplepmgbkajaaGreatDoorPkRp
import Derived.Test.YtbfplepmgbkajaaGreatDoorRowB
import Derived.Deep.MidRow
namespace Go.Proofs.YtbfplepmgbkajaaGreatDoor
open Go.RowKit
set_option linter.unusedVariables false
set_option maxRecDepth 100000

/-- On the way through Apart: the kinds from column n on are as they were. -/
structure BagR (w : World) (b : Nat) (G : Nat → Value) (V : Nat → List Value) (n : Nat) : Prop where
 K : ∀ c K, n ≤ c → kd5 c = some K → BagG K c w b (G c) (V c)
 N : ∀ j, 1 ≤ j → j ≤ 18 → kd5 j = none → w.cell? ⟨b, j, none⟩ = some (.slice none 0 0)
theorem BagR.ofB {w w1 : World} {b : Nat} {gb : Value} {vb : List Value} {G : Nat → Value} {V : Nat → List Value} (h : BagP w b gb vb G V) (t : Touch (bagF vb) w w1) : BagR w1 b G V 0 := by
 have nB : ¬ bagF vb b := by rintro ⟨m, v, hv, hk⟩; exact h.B.nb m v hv hk
 have hbl := lt_of_cell h.B.cell
 refine ⟨fun c K _ hK => ?_, fun j h1 h2 h3 => (t.cell (p := ⟨b, j, none⟩) hbl nB).trans (h.N j h1 h2 h3)⟩
 have hg := h.K c K hK
 have hy := kd5_by hK
 refine hg.touch t ((t.cell (p := ⟨b, c, none⟩) hbl nB).trans hg.cell) (fun k hk e => ?_) (fun m v k hv hk e => ?_)
 ·obtain ⟨m, v, hv, hk'⟩ := e
  obtain ⟨xs, -, hx⟩ := h.B.rows m v hv
  exact own_unlike hg.own hx hy.2.1 hk hk'
 ·obtain ⟨m', v', hv', hk'⟩ := e
  obtain ⟨ys, hy'⟩ := hg.rows m v hv
  obtain ⟨xs, -, hx⟩ := h.B.rows m' v' hv'
  exact own_unlike hy' hx hy.1 hk hk'
theorem BagR.next {w w1 : World} {b n : Nat} {G : Nat → Value} {V : Nat → List Value} (h : BagR w b G V n) {c : Nat} {K : Kd} (hn : n ≤ c) (hK : kd5 c = some K) (t : Touch (bagF (V c)) w w1) : BagR w1 b G V (c + 1) := by
 have h0 := h.K c K hn hK
 have nB : ¬ bagF (V c) b := by rintro ⟨m, v, hv, hk⟩; exact h0.nb m v hv hk
 have hbl := lt_of_cell h0.cell
 refine ⟨fun j J hj hJ => ?_, fun j h1 h2 h3 => (t.cell (p := ⟨b, j, none⟩) hbl nB).trans (h.N j h1 h2 h3)⟩
 have hg := h.K j J (by omega) hJ
 refine hg.touch t ((t.cell (p := ⟨b, j, none⟩) hbl nB).trans hg.cell) (fun k hk e => ?_) (fun m v k hv hk e => ?_)
 ·obtain ⟨m, v, hv, hk'⟩ := e
  obtain ⟨xs, hx⟩ := h0.rows m v hv
  exact own_unlike hg.own hx (kd5_se hJ hK) hk hk'
 ·obtain ⟨m', v', hv', hk'⟩ := e
  obtain ⟨ys, hy'⟩ := hg.rows m v hv
  obtain ⟨xs, hx⟩ := h0.rows m' v' hv'
  exact own_unlike hy' hx (kd5_ne hJ hK (by omega)).1 hk hk'
/-- The blocks of its lists. -/
def bag5F (vb : List Value) (V : Nat → List Value) : Nat → Prop := fun k => bagF vb k ∨ ∃ c K, kd5 c = some K ∧ bagF (V c) k
set_option maxHeartbeats 2000000 in
theorem Apart5_any (b : Nat) (gb : Value) (vb : List Value) (G : Nat → Value) (V : Nat → List Value) (w : World) (h : BagP w b gb vb G V) :
  Calls Tryz.prog 15 #[.pointer (some ⟨b, 0, none⟩)] w fun e w' => e = .returned (.bool true) ∧ Touch (bag5F vb V) w w' := by
 have HH : Hid (BagP w b gb vb G V) := h
 clear h
 go_enter Tryz.func15, Tryz.ntmps15
 go_wp2_with fail
 refine (apart_any _ _ _ _ HH.out.B).mono ?_
 rintro e w1 ⟨rfl, t1⟩
 have R1 : Hid (BagR w1 b G V 0) := BagR.ofB HH.out t1
 have T1 : Hid (Touch (bag5F vb V) w w1) := t1.mono (fun _ _ h => Or.inl h)
 clear t1 HH
 go_wp2_with fail
 refine (apartInts_none _ _ (R1.out.N 1 (by omega) (by omega) rfl)).mono ?_
 rintro e w' ⟨rfl, rfl⟩
 go_wp2_with fail
 refine (apartBools_none _ _ (R1.out.N 2 (by omega) (by omega) rfl)).mono ?_
 rintro e w' ⟨rfl, rfl⟩
 go_wp2_with fail
 refine (apartTexts_none _ _ (R1.out.N 3 (by omega) (by omega) rfl)).mono ?_
 rintro e w' ⟨rfl, rfl⟩
 go_wp2_with fail
 refine (apartLongs_none _ _ (R1.out.N 4 (by omega) (by omega) rfl)).mono ?_
 rintro e w' ⟨rfl, rfl⟩
 go_wp2_with fail
 refine (apartWords_any _ _ _ _ (R1.out.K 5 KWords (by omega) rfl)).mono ?_
 rintro e w2 ⟨rfl, t2⟩
 have R2 : Hid (BagR w2 b G V 6) := BagR.next (c := 5) R1.out (by omega) rfl t2
 have T2 : Hid (Touch (bag5F vb V) w w2) := T1.out.trans (t2.mono (fun _ _ h => Or.inr ⟨5, _, rfl, h⟩))
 clear t2 R1 T1
 go_wp2_with fail
 refine (apartPrefixes_none _ _ (R2.out.N 6 (by omega) (by omega) rfl)).mono ?_
 rintro e w' ⟨rfl, rfl⟩
 go_wp2_with fail
 refine (apartHeads_any _ _ _ _ (R2.out.K 7 KHeads (by omega) rfl)).mono ?_
 rintro e w3 ⟨rfl, t3⟩
 have R3 : Hid (BagR w3 b G V 8) := BagR.next (c := 7) R2.out (by omega) rfl t3
 have T3 : Hid (Touch (bag5F vb V) w w3) := T2.out.trans (t3.mono (fun _ _ h => Or.inr ⟨7, _, rfl, h⟩))
 clear t3 R2 T2
 go_wp2_with fail
 refine (apartKeys_any _ _ _ _ (R3.out.K 8 KKeys (by omega) rfl)).mono ?_
 rintro e w4 ⟨rfl, t4⟩
 have R4 : Hid (BagR w4 b G V 9) := BagR.next (c := 8) R3.out (by omega) rfl t4
 have T4 : Hid (Touch (bag5F vb V) w w4) := T3.out.trans (t4.mono (fun _ _ h => Or.inr ⟨8, _, rfl, h⟩))
 clear t4 R3 T3
 go_wp2_with fail
 refine (apartLinks_none _ _ (R4.out.N 9 (by omega) (by omega) rfl)).mono ?_
 rintro e w' ⟨rfl, rfl⟩
 go_wp2_with fail
 refine (apartAreas_none _ _ (R4.out.N 10 (by omega) (by omega) rfl)).mono ?_
 rintro e w' ⟨rfl, rfl⟩
 go_wp2_with fail
 refine (apartRanges_none _ _ (R4.out.N 11 (by omega) (by omega) rfl)).mono ?_
 rintro e w' ⟨rfl, rfl⟩
 go_wp2_with fail
 refine (apartPeers_none _ _ (R4.out.N 12 (by omega) (by omega) rfl)).mono ?_
 rintro e w' ⟨rfl, rfl⟩
 go_wp2_with fail
 refine (apartOuters_none _ _ (R4.out.N 13 (by omega) (by omega) rfl)).mono ?_
 rintro e w' ⟨rfl, rfl⟩
 go_wp2_with fail
 refine (apartStates_any _ _ _ _ (R4.out.K 14 KStates (by omega) rfl)).mono ?_
 rintro e w5 ⟨rfl, t5⟩
 have R5 : Hid (BagR w5 b G V 15) := BagR.next (c := 14) R4.out (by omega) rfl t5
 have T5 : Hid (Touch (bag5F vb V) w w5) := T4.out.trans (t5.mono (fun _ _ h => Or.inr ⟨14, _, rfl, h⟩))
 clear t5 R4 T4
 go_wp2_with fail
 refine (apartAuthKeys_none _ _ (R5.out.N 15 (by omega) (by omega) rfl)).mono ?_
 rintro e w' ⟨rfl, rfl⟩
 go_wp2_with fail
 refine (apartIfaces_none _ _ (R5.out.N 16 (by omega) (by omega) rfl)).mono ?_
 rintro e w' ⟨rfl, rfl⟩
 go_wp2_with fail
 refine (apartVirtuals_none _ _ (R5.out.N 17 (by omega) (by omega) rfl)).mono ?_
 rintro e w' ⟨rfl, rfl⟩
 go_wp2_with fail
 refine (apartOpaques_none _ _ (R5.out.N 18 (by omega) (by omega) rfl)).mono ?_
 rintro e w' ⟨rfl, rfl⟩
 go_wp2
 go_ret
 exact ⟨rfl, T5.out⟩
theorem AddP.from {b : Nat} {gb : Value} {vb : List Value} {G : Nat → Value} {V : Nat → List Value} {w w0 w' : World} {S : Nat → Value → Prop} {e : Ending} (t : Touch (fun _ => False) w w0) (h : AddP b gb vb G V w0 S e w') : AddP b gb vb G V w S e w' := by
 obtain ⟨he, gb', vb', G', V', h1, h2, h3, h4⟩ := h
 exact ⟨he, gb', vb', G', V', h1, BagStep.trans ⟨t.mono (fun _ _ f => f.elim), fun _ hk => Or.inl hk⟩ h2, h3, h4⟩
set_option maxHeartbeats 1000000 in
theorem bagAddHello_any (b : Nat) (gb : Value) (vb : List Value) (G : Nat → Value) (V : Nat → List Value) (C : PkC) (va : Option Addr) (n vc : Nat) (xs : List Value) (w : World) (h : BagP w b gb vb G V) (hv : w.ownsRow 0 22 1 (.slice va n vc) n xs) (hlen : n ≤ 1048576)
  (hnew : ∀ k, (Value.slice va n vc).ownBlock = some k → k < b ∧ ∀ u ∈ V 5, u.ownBlock ≠ some k) :
  Calls Tryz.prog 80 #[.pointer (some ⟨b, 0, none⟩), .agg #[.int .u32 C.P.mask, .int .u16 C.P.iv, .int .u8 C.P.opts, .int .u8 C.P.prio, .int .u32 C.P.dead, .int .u32 C.P.dr, .int .u32 C.P.bdr, .slice va n vc]] w (AddP b gb vb G V w (fun j u => j = 5 ∧ u = .slice va n vc)) := by
 have HS : ∀ o, Calls Tryz.prog 120 #[.pointer (some ⟨b, 0, none⟩), .slice va n vc] (w.alloc o) (AddP b gb vb G V (w.alloc o) (fun j u => j = 5 ∧ u = .slice va n vc)) := fun o => bagAddWords_any b gb vb G V (.slice va n vc) xs (w.alloc o) (h.keep ((Touch.refl (fun _ => False) w).alloc o)) (own_touch hv ((Touch.refl (fun _ => False) w).alloc o) (fun _ _ h => h)) hlen hnew
 have TA : Hid (Touch (fun _ => False) w (w.alloc (.cells #[.int .u32 C.P.mask, .int .u16 C.P.iv, .int .u8 C.P.opts, .int .u8 C.P.prio, .int .u32 C.P.dead, .int .u32 C.P.dr, .int .u32 C.P.bdr, .slice va n vc] 26))) := (Touch.refl _ w).alloc _
 clear h hv hlen hnew
 go_enter Tryz.func80, Tryz.ntmps80
 go_wp2_with fail
 refine Calls.mono (HS _) ?_
 intro e w1 h1
 obtain rfl := h1.ret
 have H1 : Hid (AddP b gb vb G V w (fun j u => j = 5 ∧ u = .slice va n vc) (.returned (.tuple #[])) w1) := AddP.from TA.out h1
 clear h1 TA HS
 go_wp2
 go_end0
 exact H1.out
set_option maxHeartbeats 1000000 in
theorem bagAddDD_any (b : Nat) (gb : Value) (vb : List Value) (G : Nat → Value) (V : Nat → List Value) (C : PkC) (va : Option Addr) (n vc : Nat) (xs : List Value) (w : World) (h : BagP w b gb vb G V) (hv : w.ownsRow 0 93 8 (.slice va n vc) n xs) (hlen : n ≤ 1048576)
  (hnew : ∀ k, (Value.slice va n vc).ownBlock = some k → k < b ∧ ∀ u ∈ V 7, u.ownBlock ≠ some k) :
  Calls Tryz.prog 81 #[.pointer (some ⟨b, 0, none⟩), .agg #[.int .u16 C.P.mtu, .int .u8 C.P.dopts, .int .u8 C.P.dflags, .int .u32 C.P.dseq, .slice va n vc]] w (AddP b gb vb G V w (fun j u => j = 7 ∧ u = .slice va n vc)) := by
 have HS : ∀ o, Calls Tryz.prog 84 #[.pointer (some ⟨b, 0, none⟩), .slice va n vc] (w.alloc o) (AddP b gb vb G V (w.alloc o) (fun j u => j = 7 ∧ u = .slice va n vc)) := fun o => bagAddHeads_any b gb vb G V (.slice va n vc) xs (w.alloc o) (h.keep ((Touch.refl (fun _ => False) w).alloc o)) (own_touch hv ((Touch.refl (fun _ => False) w).alloc o) (fun _ _ h => h)) hlen hnew
 have TA : Hid (Touch (fun _ => False) w (w.alloc (.cells #[.int .u16 C.P.mtu, .int .u8 C.P.dopts, .int .u8 C.P.dflags, .int .u32 C.P.dseq, .slice va n vc] 29))) := (Touch.refl _ w).alloc _
 clear h hv hlen hnew
 go_enter Tryz.func81, Tryz.ntmps81
 go_wp2_with fail
 refine Calls.mono (HS _) ?_
 intro e w1 h1
 obtain rfl := h1.ret
 have H1 : Hid (AddP b gb vb G V w (fun j u => j = 7 ∧ u = .slice va n vc) (.returned (.tuple #[])) w1) := AddP.from TA.out h1
 clear h1 TA HS
 go_wp2
 go_end0
 exact H1.out
set_option maxHeartbeats 1000000 in
theorem bagAddState_any (b : Nat) (gb : Value) (vb : List Value) (G : Nat → Value) (V : Nat → List Value) (H : HV) (va : Option Addr) (n vc : Nat) (xs : List Int) (w : World) (h : BagP w b gb vb G V) (hv : w.ownsRow 0 5 1 (.slice va n vc) n (bytesOf xs)) (hxs : xs.length = n) (hlen : n ≤ 1048576)
  (hnew : ∀ k, (Value.slice va n vc).ownBlock = some k → k < b ∧ ∀ u ∈ vb, u.ownBlock ≠ some k) :
  Calls Tryz.prog 121 #[.pointer (some ⟨b, 0, none⟩), .agg #[.int .u16 H.age, .int .u8 H.opts, .int .u8 H.typ, .int .u32 H.id, .int .u32 H.adv, .int .i32 H.seq, .int .u16 H.sum, .int .u16 H.len, .slice va n vc]] w (AddP b gb vb G V w (fun j u => j = 0 ∧ u = .slice va n vc)) := by
 have HS : ∀ o, Calls Tryz.prog 14 #[.pointer (some ⟨b, 0, none⟩), .slice va n vc] (w.alloc o) (AddP b gb vb G V (w.alloc o) (fun j u => j = 0 ∧ u = .slice va n vc)) := fun o => by subst hxs; exact bagAddBytes_any b gb vb G V (.slice va xs.length vc) xs (w.alloc o) (h.keep ((Touch.refl (fun _ => False) w).alloc o)) (own_touch hv ((Touch.refl (fun _ => False) w).alloc o) (fun _ _ h => h)) hlen hnew
 have TA : Hid (Touch (fun _ => False) w (w.alloc (.cells #[.int .u16 H.age, .int .u8 H.opts, .int .u8 H.typ, .int .u32 H.id, .int .u32 H.adv, .int .i32 H.seq, .int .u16 H.sum, .int .u16 H.len, .slice va n vc] 95))) := (Touch.refl _ w).alloc _
 clear h hv hlen hnew
 go_enter Tryz.func121, Tryz.ntmps121
 go_wp2_with fail
 refine Calls.mono (HS _) ?_
 intro e w1 h1
 obtain rfl := h1.ret
 have H1 : Hid (AddP b gb vb G V w (fun j u => j = 0 ∧ u = .slice va n vc) (.returned (.tuple #[])) w1) := AddP.from TA.out h1
 clear h1 TA HS
 go_wp2
 go_end0
 exact H1.out
end Go.Proofs.YtbfplepmgbkajaaGreatDoor

namespace Go.Proofs.YtbfplepmgbkajaaGreatDoor
open Go.RowKit
set_option linter.unusedVariables false
set_option maxRecDepth 100000

theorem BagStep.off {w wx : World} {b : Nat} {gb gb' : Value} {vb : List Value} {G G' : Nat → Value} {V : Nat → List Value} (h : BagP w b gb vb G V) (s : BagStep w b gb G wx gb' G') {k : Nat} (hk : k < b) (hw : k < w.heap.size) : ¬ (k = b ∨ ownS gb G k ∨ w.heap.size ≤ k) := by
 rintro (e | (e | ⟨c, K, hK, e⟩) | e)
 ·omega
 ·have := h.hb k e; omega
 ·have := h.hk c K hK k e; omega
 ·omega
theorem states_one {base : Nat} {w : World} {va : Option Addr} {vc : Nat} {l : List SE} (h : w.ownsRow base 95 9 (.slice va l.length vc) l.length (statesC l)) {k : Nat} {x : SE} (hx : l[k]? = some x) : ∃ g, va = some ⟨g, 0, none⟩ ∧ ∀ i u, x.cells[i]? = some u → w.cell? ⟨g, k * 9 + i, none⟩ = some u := by
 have hlt := (List.getElem?_eq_some_iff.mp hx).1
 rcases h.2 with ⟨e, _⟩ | ⟨g, c, cur, e, _, hh, _⟩
 ·injection e with _ e2 _
  omega
 ·injection e with e1 _ _
  subst e1
  refine ⟨g, rfl, fun i u hu => ?_⟩
  have hi : i < 9 := (List.getElem?_eq_some_iff.mp hu).1
  have hc := h.cellAt (k * 9 + i) (by omega)
  rw [statesC_at l k i x hx hi, hu] at hc
  simpa using hc
theorem apt_at {l : List SE} (h : l.Pairwise Apt) {m k : Nat} {x y : SE} (hm : l[m]? = some x) (hk : l[k]? = some y) (hlt : m < k) : Apt x y := by
 obtain ⟨h1, rfl⟩ := List.getElem?_eq_some_iff.mp hm
 obtain ⟨h2, rfl⟩ := List.getElem?_eq_some_iff.mp hk
 exact List.pairwise_iff_getElem.mp h m k h1 h2 hlt
/-- On the way: k bodies are added. -/
structure StL (b : Nat) (gb : Value) (vb : List Value) (G : Nat → Value) (V : Nat → List Value) (w : World) (v : Value) (l : List SE) (k : Nat) (wx : World) : Prop where
 out : ∃ gb' vb' G' V', BagP wx b gb' vb' G' V' ∧ BagStep w b gb G wx gb' G' ∧ (∀ u ∈ vb', u ∈ vb ∨ ∃ m x, m < k ∧ l[m]? = some x ∧ u = x.v) ∧ ∀ j u, 1 ≤ j → u ∈ V' j → u ∈ V j ∨ (j = 14 ∧ u = v)
/-- What it needs of the states. -/
structure StN (b : Nat) (vb : List Value) (V : Nat → List Value) (w : World) (va : Option Addr) (vc : Nat) (l : List SE) : Prop where
 row : w.ownsRow 0 95 9 (.slice va l.length vc) l.length (statesC l)
 bod : ∀ x ∈ l, w.ownsRow 0 5 1 x.v x.rs.length (bytesOf x.rs)
 apt : l.Pairwise Apt
 few : l.length ≤ 1048576
 sml : ∀ x ∈ l, x.rs.length ≤ 1048576
 new : ∀ k, (Value.slice va l.length vc).ownBlock = some k → k < b ∧ ∀ u ∈ V 14, u.ownBlock ≠ some k
 nwb : ∀ x ∈ l, ∀ k, x.v.ownBlock = some k → k < b ∧ ∀ u ∈ vb, u.ownBlock ≠ some k
abbrev StS (v : Value) (l : List SE) : Nat → Value → Prop := fun j u => (j = 14 ∧ u = v) ∨ (j = 0 ∧ ∃ x ∈ l, u = x.v)
theorem StL.one {b : Nat} {gb : Value} {vb : List Value} {G : Nat → Value} {V : Nat → List Value} {w wx : World} {va : Option Addr} {vc : Nat} {l : List SE} {k : Nat} (h : BagP w b gb vb G V) (n : StN b vb V w va vc l) (s : StL b gb vb G V w (.slice va l.length vc) l k wx) {x : SE} (hx : l[k]? = some x) :
  ∃ xa xc, x.v = .slice xa x.rs.length xc ∧ Calls Tryz.prog 121 #[.pointer (some ⟨b, 0, none⟩), .agg #[.int .u16 x.h.age, .int .u8 x.h.opts, .int .u8 x.h.typ, .int .u32 x.h.id, .int .u32 x.h.adv, .int .i32 x.h.seq, .int .u16 x.h.sum, .int .u16 x.h.len, .slice xa x.rs.length xc]] wx fun e w' => e = .returned (.tuple #[]) ∧ StL b gb vb G V w (.slice va l.length vc) l (k + 1) w' := by
 obtain ⟨gb', vb', G', V', hP, hS, hB, hV⟩ := s
 have hm := List.mem_of_getElem? hx
 have ho := n.bod x hm
 obtain ⟨xa, xc, hxv⟩ := own_form ho
 have hox : wx.ownsRow 0 5 1 x.v x.rs.length (bytesOf x.rs) := own_touch ho hS.touch (fun kk hkk => BagStep.off h hS (n.nwb x hm kk hkk).1 (own_lt ho hkk))
 refine ⟨xa, xc, hxv, Calls.mono (bagAddState_any b gb' vb' G' V' x.h xa x.rs.length xc x.rs wx hP (by rw [← hxv]; exact hox) rfl (n.sml x hm) (fun kk hkk => ?_)) ?_⟩
 ·rw [← hxv] at hkk
  refine ⟨(n.nwb x hm kk hkk).1, fun u hu => ?_⟩
  rcases hB u hu with h1 | ⟨m, y, hmk, hy, rfl⟩
  ·exact (n.nwb x hm kk hkk).2 u h1
  ·exact fun e => apt_at n.apt hy hx hmk kk e hkk
 ·rintro e w' ⟨he, gb2, vb2, G2, V2, p2, s2, b2, v2⟩
  refine ⟨he, gb2, vb2, G2, V2, p2, hS.trans s2, fun u hu => ?_, fun j u hj hu => ?_⟩
  ·rcases b2 u hu with h1 | ⟨-, h1⟩
   ·rcases hB u h1 with h2 | ⟨m, y, hmk, hy, e⟩
    ·exact Or.inl h2
    ·exact Or.inr ⟨m, y, by omega, hy, e⟩
   ·exact Or.inr ⟨k, x, by omega, hx, by rw [h1, hxv]⟩
  ·rcases v2 j u hj hu with h1 | ⟨h1, -⟩
   ·exact hV j u hj h1
   ·omega
theorem StL.done {b : Nat} {gb : Value} {vb : List Value} {G : Nat → Value} {V : Nat → List Value} {w wx : World} {v : Value} {l : List SE} {k : Nat} (s : StL b gb vb G V w v l k wx) : AddP b gb vb G V w (StS v l) (.returned (.tuple #[])) wx := by
 obtain ⟨gb', vb', G', V', hP, hS, hB, hV⟩ := s
 refine ⟨rfl, gb', vb', G', V', hP, hS, fun u hu => ?_, fun j u hj hu => ?_⟩
 ·rcases hB u hu with h1 | ⟨m, x, _, hx, e⟩
  ·exact Or.inl h1
  ·exact Or.inr (Or.inr ⟨rfl, x, List.mem_of_getElem? hx, e⟩)
 ·rcases hV j u hj hu with h1 | h1
  ·exact Or.inl h1
  ·exact Or.inr (Or.inl h1)
theorem StL.start {b : Nat} {gb : Value} {vb : List Value} {G : Nat → Value} {V : Nat → List Value} {w : World} {v : Value} {l : List SE} (h : BagP w b gb vb G V) : StL b gb vb G V w v l 0 w :=
 ⟨gb, vb, G, V, h, BagStep.refl _ _ _ _, fun _ hu => Or.inl hu, fun _ _ _ hu => Or.inl hu⟩
theorem StL.begin {b : Nat} {gb : Value} {vb : List Value} {G : Nat → Value} {V : Nat → List Value} {w w1 : World} {v gv : Value} {l : List SE} (p1 : BagP w1 b gb vb (upd G 14 gv) (upd V 14 (V 14 ++ [v]))) (p2 : BagStep w b gb G w1 gb (upd G 14 gv)) : StL b gb vb G V w v l 0 w1 := by
 refine ⟨gb, vb, _, _, p1, p2, fun _ hu => Or.inl hu, fun j u _ hu => ?_⟩
 by_cases hj : j = 14
 ·subst hj
  rw [upd_at] at hu
  rcases List.mem_append.mp hu with hu | hu
  ·exact Or.inl hu
  ·exact Or.inr ⟨rfl, List.mem_singleton.mp hu⟩
 ·rw [upd_off _ _ hj] at hu
  exact Or.inl hu
set_option maxHeartbeats 2000000 in
theorem bagStates_full (b : Nat) (gb : Value) (vb : List Value) (G : Nat → Value) (V : Nat → List Value) (va : Option Addr) (vc : Nat) (l : List SE) (w : World) (h : BagP w b gb vb G V) (n : StN b vb V w va vc l) (hroom : ¬ (V 14).length < 300) :
  Calls Tryz.prog 83 #[.pointer (some ⟨b, 0, none⟩), .slice va l.length vc] w (AddP b gb vb G V w (StS (.slice va l.length vc) l)) := by
 have hg := h.K 14 KStates rfl
 obtain ⟨ga, gc, hga⟩ := own_form hg.own
 have hc := hg.cell
 rw [hga] at hc
 have hf := hg.few
 have hfew := n.few
 have HH : Hid (BagP w b gb vb G V) := h
 have HN : Hid (StN b vb V w va vc l) := n
 have S0 : Hid (StL b gb vb G V w (.slice va l.length vc) l 0 w) := StL.start h
 clear h n hg hga
 go_enter Tryz.func83, Tryz.ntmps83
 go_wp2
 clear hc hf hroom
 go_loopg [4] l.length (fun gg i wx => ∃ k : Nat, k ≤ l.length ∧ k ≤ 300 ∧ l.length - k ≤ gg ∧ i = .int .i64 k ∧ StL b gb vb G V w (.slice va l.length vc) l k wx)
 case atStart => exact ⟨0, Nat.zero_le _, by omega, by omega, rfl, S0.out⟩
 case round =>
  clear S0
  obtain ⟨k, hk, hk3, hkg, rfl, sk⟩ := hrel
  have SK : Hid (StL b gb vb G V w (.slice va l.length vc) l k wr) := sk
  clear sk
  by_cases hlt : k < l.length
  ·have hki : (k : Int) < (l.length : Int) := by omega
   by_cases hl3 : k < 300
   ·have hl3i : (k : Int) < 300 := by omega
    obtain ⟨x, hx⟩ : ∃ x, l[k]? = some x := ⟨l[k], by simp [hlt]⟩
    obtain ⟨xa, xc, hxv, HWT⟩ := StL.one HH.out HN.out SK.out hx
    obtain ⟨gR, eR, hcell⟩ : ∃ g, va = some ⟨g, 0, none⟩ ∧ ∀ i u, x.cells[i]? = some u → wr.cell? ⟨g, k * 9 + i, none⟩ = some u := by
     obtain ⟨gb', vb', G', V', hP, hS, -, -⟩ := SK.out
     exact states_one (own_touch HN.out.row hS.touch (fun kk hkk => BagStep.off HH.out hS (HN.out.new kk hkk).1 (own_lt HN.out.row hkk))) hx
    subst eR
    have cx0 : wr.cell? ⟨gR, k * 9, none⟩ = some (.int .u16 x.h.age) := by exact hcell 0 _ rfl
    have cx1 : wr.cell? ⟨gR, k * 9 + 1, none⟩ = some (.int .u8 x.h.opts) := by exact hcell 1 _ rfl
    have cx2 : wr.cell? ⟨gR, k * 9 + 2, none⟩ = some (.int .u8 x.h.typ) := by exact hcell 2 _ rfl
    have cx3 : wr.cell? ⟨gR, k * 9 + 3, none⟩ = some (.int .u32 x.h.id) := by exact hcell 3 _ rfl
    have cx4 : wr.cell? ⟨gR, k * 9 + 4, none⟩ = some (.int .u32 x.h.adv) := by exact hcell 4 _ rfl
    have cx5 : wr.cell? ⟨gR, k * 9 + 5, none⟩ = some (.int .i32 x.h.seq) := by exact hcell 5 _ rfl
    have cx6 : wr.cell? ⟨gR, k * 9 + 6, none⟩ = some (.int .u16 x.h.sum) := by exact hcell 6 _ rfl
    have cx7 : wr.cell? ⟨gR, k * 9 + 7, none⟩ = some (.int .u16 x.h.len) := by exact hcell 7 _ rfl
    have cx8 : wr.cell? ⟨gR, k * 9 + 8, none⟩ = some (.slice xa x.rs.length xc) := by exact (hcell 8 _ rfl).trans (by rw [hxv])
    clear hcell hx hxv SK
    go_wp2_with fail
    refine Calls.mono HWT ?_
    rintro e w2 ⟨rfl, s2⟩
    have S2 : Hid (StL b gb vb G V w (.slice (some ⟨gR, 0, none⟩) l.length vc) l (k + 1) w2) := s2
    clear s2 HWT cx0 cx1 cx2 cx3 cx4 cx5 cx6 cx7 cx8
    go_wp2
    go_roundg (l.length - (k + 1))
    case measure => omega
    case rel => exact ⟨k + 1, by omega, by omega, by omega, by go_num, S2.out⟩
   ·have hl3i : ¬ ((k : Int) < 300) := by omega
    have SD : Hid _ := SK.out.done
    clear SK
    go_wp2
    go_end0
    exact SD.out
  ·have hki : ¬ ((k : Int) < (l.length : Int)) := by omega
   have SD : Hid _ := SK.out.done
   clear SK
   go_wp2
   go_end0
   exact SD.out
set_option maxHeartbeats 2000000 in
theorem bagStates_room (b : Nat) (gb : Value) (vb : List Value) (G : Nat → Value) (V : Nat → List Value) (va : Option Addr) (vc : Nat) (l : List SE) (w : World) (h : BagP w b gb vb G V) (n : StN b vb V w va vc l) (hroom : (V 14).length < 300) :
  Calls Tryz.prog 83 #[.pointer (some ⟨b, 0, none⟩), .slice va l.length vc] w (AddP b gb vb G V w (StS (.slice va l.length vc) l)) := by
 obtain ⟨i1, hj, hy0, hy1, hy2⟩ := info_parts Tryz.infoStatesL
 have hg := h.K 14 KStates rfl
 obtain ⟨ga, gc, hga⟩ := own_form hg.own
 have hc := hg.cell
 rw [hga] at hc
 have hbl := lt_of_cell hc
 have hfew := n.few
 have HG : Hid (BagG KStates 14 w b (.slice ga (V 14).length gc) (V 14)) := by rw [← hga]; exact hg
 have HGA : Hid (G 14 = .slice ga (V 14).length gc) := hga
 have HBB : Hid (∀ k, (Value.slice ga (V 14).length gc).ownBlock = some k → b < k) := fun k hk => h.hk 14 KStates rfl k (by rw [hga]; exact hk)
 have HF : Hid (w.frozen? ⟨b, 14, none⟩ = false) := h.f 14
 have HH : Hid (BagP w b gb vb G V) := h
 have HN : Hid (StN b vb V w va vc l) := n
 have HW : Hid (∀ k, (Value.slice va l.length vc).ownBlock = some k → k ≠ b ∧ (Value.slice ga (V 14).length gc).ownBlock ≠ some k ∧ ∀ (m : Nat) (u : Value), (V 14)[m]? = some u → u.ownBlock ≠ some k) := fun k hk => ⟨fun e => by have := (n.new k hk).1; omega, fun e => by have := HBB.out k e; have := (n.new k hk).1; omega, fun m u hu => (n.new k hk).2 u (List.mem_of_getElem? hu)⟩
 clear h n hg hga
 generalize hvs : V 14 = vs at *
 have HVS : Hid (V 14 = vs) := hvs
 clear hvs
 go_enter Tryz.func83, Tryz.ntmps83
 go_wp2_with (at_builtin; refine wpList_append_own_at _ rfl (.tmp 15) (.tmp 17) 64 rfl 0 31 i1 (.slice none 0 0) 1 24 Tryz.underlying64 hj hy0 hy1 hy2 rfl (by decide) (.slice ga vs.length gc) vs.length vs rfl (HG.out.own.alloc _) ⟨w.heap.size, 0, none⟩ 1 1 [.slice va l.length vc] rfl rfl ?c1 ?c2 ?c3 ?c4 ?c5 ?_)
 case c1 => exact cell_one_new _ _ _
 case c2 => intro u hu; obtain rfl := List.mem_singleton.mp hu; rfl
 case c3 => unfold maxLen; omega
 case c4 => omega
 case c5 => exact Nat.zero_le _
 intro gv' w1 hown hgrow _ hat
 obtain ⟨ga', gc', rfl⟩ := own_form hown
 have t1 : Touch (fun k => (Value.slice ga vs.length gc).ownBlock = some k) w w1 := ((Touch.refl _ w).alloc _).grown hgrow (fun k hk => Or.inl hk)
 have hnb := HG.out.nbg
 have hc1 : w1.cell? ⟨b, 14, none⟩ = some (.slice ga vs.length gc) := (t1.cell (p := ⟨b, 14, none⟩) hbl hnb).trans hc
 have hf1 : w1.frozen? ⟨b, 14, none⟩ = false := (t1.frozen (p := ⟨b, 14, none⟩) hbl hnb).trans HF.out
 have S0 : Hid (StL b gb vb G V w (.slice va l.length vc) l 0 (w1.setCell ⟨b, 14, none⟩ (.slice ga' (vs.length + 1) gc'))) := by
  obtain ⟨q1, -, q3, q4, q5, q6, q7⟩ := bagG_added HG.out HN.out.row HN.out.few HW.out hroom HBB.out HF.out t1 hown hat
  have := HH.out.putK (c := 14) (K := KStates) rfl q1 q3 (by rw [HGA.out]; exact q4) (by rw [HGA.out]; exact q5) q6 q7
  exact StL.begin (by rw [HVS.out]; exact this.1) this.2
 clear t1 hown hgrow hat hc hnb hroom
 go_wp2
 clear hc1 hf1
 go_loopg [4] l.length (fun gg i wx => ∃ k : Nat, k ≤ l.length ∧ k ≤ 300 ∧ l.length - k ≤ gg ∧ i = .int .i64 k ∧ StL b gb vb G V w (.slice va l.length vc) l k wx)
 case atStart => exact ⟨0, Nat.zero_le _, by omega, by omega, rfl, S0.out⟩
 case round =>
  clear S0
  obtain ⟨k, hk, hk3, hkg, rfl, sk⟩ := hrel
  have SK : Hid (StL b gb vb G V w (.slice va l.length vc) l k wr) := sk
  clear sk
  by_cases hlt : k < l.length
  ·have hki : (k : Int) < (l.length : Int) := by omega
   by_cases hl3 : k < 300
   ·have hl3i : (k : Int) < 300 := by omega
    obtain ⟨x, hx⟩ : ∃ x, l[k]? = some x := ⟨l[k], by simp [hlt]⟩
    obtain ⟨xa, xc, hxv, HWT⟩ := StL.one HH.out HN.out SK.out hx
    obtain ⟨gR, eR, hcell⟩ : ∃ g, va = some ⟨g, 0, none⟩ ∧ ∀ i u, x.cells[i]? = some u → wr.cell? ⟨g, k * 9 + i, none⟩ = some u := by
     obtain ⟨gb', vb', G', V', hP, hS, -, -⟩ := SK.out
     exact states_one (own_touch HN.out.row hS.touch (fun kk hkk => BagStep.off HH.out hS (HN.out.new kk hkk).1 (own_lt HN.out.row hkk))) hx
    subst eR
    have cx0 : wr.cell? ⟨gR, k * 9, none⟩ = some (.int .u16 x.h.age) := by exact hcell 0 _ rfl
    have cx1 : wr.cell? ⟨gR, k * 9 + 1, none⟩ = some (.int .u8 x.h.opts) := by exact hcell 1 _ rfl
    have cx2 : wr.cell? ⟨gR, k * 9 + 2, none⟩ = some (.int .u8 x.h.typ) := by exact hcell 2 _ rfl
    have cx3 : wr.cell? ⟨gR, k * 9 + 3, none⟩ = some (.int .u32 x.h.id) := by exact hcell 3 _ rfl
    have cx4 : wr.cell? ⟨gR, k * 9 + 4, none⟩ = some (.int .u32 x.h.adv) := by exact hcell 4 _ rfl
    have cx5 : wr.cell? ⟨gR, k * 9 + 5, none⟩ = some (.int .i32 x.h.seq) := by exact hcell 5 _ rfl
    have cx6 : wr.cell? ⟨gR, k * 9 + 6, none⟩ = some (.int .u16 x.h.sum) := by exact hcell 6 _ rfl
    have cx7 : wr.cell? ⟨gR, k * 9 + 7, none⟩ = some (.int .u16 x.h.len) := by exact hcell 7 _ rfl
    have cx8 : wr.cell? ⟨gR, k * 9 + 8, none⟩ = some (.slice xa x.rs.length xc) := by exact (hcell 8 _ rfl).trans (by rw [hxv])
    clear hcell hx hxv SK
    go_wp2_with fail
    refine Calls.mono HWT ?_
    rintro e w2 ⟨rfl, s2⟩
    have S2 : Hid (StL b gb vb G V w (.slice (some ⟨gR, 0, none⟩) l.length vc) l (k + 1) w2) := s2
    clear s2 HWT cx0 cx1 cx2 cx3 cx4 cx5 cx6 cx7 cx8
    go_wp2
    go_roundg (l.length - (k + 1))
    case measure => omega
    case rel => exact ⟨k + 1, by omega, by omega, by omega, by go_num, S2.out⟩
   ·have hl3i : ¬ ((k : Int) < 300) := by omega
    have SD : Hid _ := SK.out.done
    clear SK
    go_wp2
    go_end0
    exact SD.out
  ·have hki : ¬ ((k : Int) < (l.length : Int)) := by omega
   have SD : Hid _ := SK.out.done
   clear SK
   go_wp2
   go_end0
   exact SD.out
theorem bagAddStates_any (b : Nat) (gb : Value) (vb : List Value) (G : Nat → Value) (V : Nat → List Value) (va : Option Addr) (vc : Nat) (l : List SE) (w : World) (h : BagP w b gb vb G V) (n : StN b vb V w va vc l) :
  Calls Tryz.prog 83 #[.pointer (some ⟨b, 0, none⟩), .slice va l.length vc] w (AddP b gb vb G V w (StS (.slice va l.length vc) l)) := by
 by_cases hroom : (V 14).length < 300
 ·exact bagStates_room b gb vb G V va vc l w h n hroom
 ·exact bagStates_full b gb vb G V va vc l w h n hroom
end Go.Proofs.YtbfplepmgbkajaaGreatDoor

namespace Go.Proofs.YtbfplepmgbkajaaGreatDoor
open Go.RowKit
set_option linter.unusedVariables false
set_option maxRecDepth 100000

theorem Row.touch {F : Nat → Prop} {w w' : World} {g : Nat} {T : TypeId} {xs : List Value} (h : Row w g T xs) (t : Touch F w w') (hg : ¬ F g) : Row w' g T xs := (t.block g h.lt hg).trans h
theorem Row.otherRow {w : World} {g g' : Nat} {T : TypeId} {xs : List Value} (h : Row w g T xs) (hne : ¬ g = g') (cs : Array Value) : Row (w.setRow g' cs) g T xs := (setRow_other w g' g cs hne).trans h
theorem Row.range {w : World} {g : Nat} {T : TypeId} {xs : List Value} (h : Row w g T xs) : w.rangeAt g 0 xs := fun j v hj => by
 rw [Nat.zero_add, h.cell j]
 exact hj
theorem Row.pd {w : World} {g : Nat} {T : TypeId} {P : PV} {vn vd vk vs vh : Value} (h : Row w g T [.int .u8 P.typ, .int .u32 P.router, .int .u32 P.area, .int .u32 P.mask, .int .u16 P.iv, .int .u8 P.opts, .int .u8 P.prio, .int .u32 P.dead, .int .u32 P.dr, .int .u32 P.bdr, vn, .int .u16 P.mtu, .int .u8 P.dopts, .int .u8 P.dflags, .int .u32 P.dseq, vd, vk, vs, vh]) : Pd w g P vn vd vk vs vh := ⟨h.cell 0, h.cell 1, h.cell 2, h.cell 3, h.cell 4, h.cell 5, h.cell 6, h.cell 7, h.cell 8, h.cell 9, h.cell 10, h.cell 11, h.cell 12, h.cell 13, h.cell 14, h.cell 15, h.cell 16, h.cell 17, h.cell 18⟩
theorem Row.room {w : World} {g : Nat} {T : TypeId} {xs : List Value} (h : Row w g T xs) : Room w g xs.length := fun i hi => ⟨xs[i], by rw [h.cell i]; simp [hi], h.frozen i⟩
/-- A store of a whole row, in a region that draws its order. -/
theorem step_row {P : Program} {ops : Array Oper} {o : Oper} {a : Act} {w : World} {K : Act → World → Prop} {Q : Exit → Act → World → Prop} {E : Prop} (hgd : o.guard = none) (ty : TypeId) (x y : Operand) (ho : o.op = .store ty x y)
  (g : Nat) (cells : List Value) (hx : a.eval x = .pointer (some ⟨g, 0, none⟩)) (hy : a.eval y = .agg cells.toArray) (T : TypeId) (old : List Value) (hg : Row w g T old) (hi : (P.info? ty).map (·.size) = some cells.length) (hold : old.length = cells.length) (h1 : ∀ v ∈ cells, v.oneCell' = true)
  (h : K (a.put o.dst undef) (w.setRow g cells.toArray)) : if Region.wanted o (yielded ops a.tmps) = true then Oper.wp P o a w K Q else E := by
 have hw : Region.wanted o (yielded ops a.tmps) = true := by simp [Region.wanted, hgd]
 rw [if_pos hw]
 exact wp_store_row ty x y ho g cells.toArray hx hy T old.toArray hg (by rw [hi]; simp) (by simpa using hold) (all_oneCell h1) h
/-- Two results that are rows. -/
theorem results_two {P : Program} {fn : Func} {p q : Tmp} {ty tq : TypeId} (h : fn.results = #[.cell p ty, .cell q tq]) (tmps : Array Value) (w : World) (g g' : Nat) (t t' : TypeId) (cs cs' : List Value) (d d' : TypeDesc)
  (hp : tmps.getD p undef = .pointer (some ⟨g, 0, none⟩)) (hq : tmps.getD q undef = .pointer (some ⟨g', 0, none⟩)) (hg : Row w g t cs) (hg' : Row w g' t' cs')
  (hu : P.underlying ty = some d) (hd : (match d with | .struct _ | .array _ _ => true | _ => false) = true) (hi : (P.info? ty).map (·.size) = some cs.length)
  (hu' : P.underlying tq = some d') (hd' : (match d' with | .struct _ | .array _ _ => true | _ => false) = true) (hi' : (P.info? tq).map (·.size) = some cs'.length) :
  (results fn tmps).run P w = .ok (.tuple #[.agg cs.toArray, .agg cs'.toArray]) w := by
 have hp' : tmps[p]?.getD undef = .pointer (some ⟨g, 0, none⟩) := by simpa using hp
 have hq' : tmps[q]?.getD undef = .pointer (some ⟨g', 0, none⟩) := by simpa using hq
 simp [results, h, hp', hq', asAddr, run_loadVar_row w g t ty cs.toArray (0, 0) d hg hu hd (by simpa using hi), run_loadVar_row w g' t' tq cs'.toArray (0, 0) d' hg' hu' hd' (by simpa using hi')]
/-- Three: two rows and a slot. -/
theorem results_three {P : Program} {fn : Func} {p q s : Tmp} {ty tq : TypeId} (h : fn.results = #[.cell p ty, .cell q tq, .tmp s]) (tmps : Array Value) (w : World) (g g' : Nat) (t t' : TypeId) (cs cs' : List Value) (d d' : TypeDesc) (v : Value)
  (hp : tmps.getD p undef = .pointer (some ⟨g, 0, none⟩)) (hq : tmps.getD q undef = .pointer (some ⟨g', 0, none⟩)) (hs : tmps.getD s undef = v) (hg : Row w g t cs) (hg' : Row w g' t' cs')
  (hu : P.underlying ty = some d) (hd : (match d with | .struct _ | .array _ _ => true | _ => false) = true) (hi : (P.info? ty).map (·.size) = some cs.length)
  (hu' : P.underlying tq = some d') (hd' : (match d' with | .struct _ | .array _ _ => true | _ => false) = true) (hi' : (P.info? tq).map (·.size) = some cs'.length) :
  (results fn tmps).run P w = .ok (.tuple #[.agg cs.toArray, .agg cs'.toArray, v]) w := by
 have hp' : tmps[p]?.getD undef = .pointer (some ⟨g, 0, none⟩) := by simpa using hp
 have hq' : tmps[q]?.getD undef = .pointer (some ⟨g', 0, none⟩) := by simpa using hq
 have hs' : tmps[s]?.getD undef = v := by simpa using hs
 simp [results, h, hp', hq', hs', asAddr, run_loadVar_row w g t ty cs.toArray (0, 0) d hg hu hd (by simpa using hi), run_loadVar_row w g' t' tq cs'.toArray (0, 0) d' hg' hu' hd' (by simpa using hi')]
end Go.Proofs.YtbfplepmgbkajaaGreatDoor
