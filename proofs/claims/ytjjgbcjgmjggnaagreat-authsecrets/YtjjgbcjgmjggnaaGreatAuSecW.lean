/- The walk of AuthSecrets: a password is opened just by the same. -/
import Derived.Test.YtjjgbcjgmjggnaaGreatAuRow
import Derived.Test.YtjjgbcjgmjggnaaGreatAuLives
import Derived.Test.YtjjgbcjgmjggnaaGreatAuGiv
import Derived.Test.YtjjgbcjgmjggnaaGreatPkSz
import Derived.Test.YtjjgbcjgmjggnaaGreatPkCpP
import Derived.Test.YtjjgbcjgmjggnaaGreatStCopy
import Derived.Deep.DeepCutAuto
import Derived.Deep.RegionHeld3
namespace Go.Proofs.YtjjgbcjgmjggnaaGreat
open Go.RowKit
set_option linter.unusedVariables false
set_option maxRecDepth 100000

/-- A load of a great struct whose guard is open. -/
theorem wpList_load_mid_g {P : Program} {ops : Array Oper} {rest : List Oper} {op : Oper} {a : Act} {w : World} {Q : Exit → Act → World → Prop} (hw : Region.wanted op (yielded ops a.tmps) = true) (ty : TypeId) (x : Operand) (ho : op.op = .load ty x)
    (b o : Nat) (hx : a.eval x = .pointer (some ⟨b, o, none⟩)) (cs : List Value) (d : TypeDesc) (hc : w.rangeAt b o cs)
    (hu : P.underlying ty = some d) (hd : d.isRow = true) (hi : (P.info? ty).map (·.size) = some cs.length)
    (h : wpList P ops Q rest (a.put op.dst (.agg cs.toArray)) w) : wpList P ops Q (op :: rest) a w :=
  wpList_step fun _ hK => by
    rw [if_pos hw]
    exact wp_load_mid ty x ho b o hx cs d hc hu hd hi (hK _ _ h)
/-- A row of keys that is written out. -/
theorem chain_lit (w : World) (l : List KE) (cs : Array Value) (hc : cs.toList = chainC l) (hl : l.length ≤ 1000) (ok : ∀ x ∈ l, x.Ok w) : ChainAt (w.alloc (.cells cs 56)) (.slice (some ⟨w.heap.size, 0, none⟩) l.length l.length) l := by
  refine ⟨⟨length_chainC l, Or.inr ⟨⟨w.heap.size, 0, none⟩, l.length, rfl, Nat.le_refl _, by unfold maxLen; omega, fun j u hj => ?_⟩⟩, fun x hx => (ok x hx).keep ((Touch.refl _ w).alloc _)⟩
  rw [add_plain, Nat.zero_add, cell_of_row _ _ j _ _ _ (heap_alloc_new w _), ← Array.getElem?_toList, hc]
  exact hj
/-- The key as a password. -/
def KE.pl (x : KE) : KE := ⟨⟨x.p.id, 1, x.p.sec, x.p.sf, x.p.su, x.p.tf, x.p.tu⟩, x.a, x.c⟩
theorem KE.pl_ok {w : World} {x : KE} (h : x.Ok w) : x.pl.Ok w := ⟨⟨h.all.id, by show (0 : Int) ≤ 1 ∧ (1 : Int) < 65536; omega, h.all.sec, h.all.sf, h.all.su, h.all.tf, h.all.tu⟩, h.arg⟩
theorem hsum_two (x1 x2 : KE) (N : Nat) (h : 0 + hsum [x1, x2] ≤ N) : hsum [x1.pl] ≤ N ∧ hsum [x2.pl] ≤ N ∧ x1.p.sec.length ≤ N ∧ x2.p.sec.length ≤ N := by
  simp [hsum] at h
  have e1 : hsum [x1.pl] = 1 + x1.p.sec.length := by simp [hsum, KE.pl]
  have e2 : hsum [x2.pl] = 1 + x2.p.sec.length := by simp [hsum, KE.pl]
  omega
structure PadR (w0 : World) (vy : Value) (sec ly : List Int) (gg : Nat) (s : Value) (wr : World) : Prop where
  out : ∃ j : Nat, sec.length + j ≤ 8 ∧ 8 - (sec.length + j) ≤ gg ∧ Two8 w0 wr s vy (sec ++ List.replicate j 0) ly
set_option maxHeartbeats 8000000 in
theorem secrets8_any (C : PkC) (ok : C.Ok) (sz : C.Sz) (x1 x2 : KE) (vn vd vk vs vh : Value) (w : World) (hp : PkAt w C vn vd vk vs vh) (h1 : x1.Ok w) (h2 : x2.Ok w) (z1 : x1.p.sec.length ≤ 140737488355328) (z2 : x2.p.sec.length ≤ 140737488355328) :
    Calls Tryz.prog 4 #[C.P.v vn vd vk vs vh, x1.agg, x2.agg] w fun e w' => e = .returned (.bool true) ∧ Touch (fun _ => False) w w' := by
  have HSZ := fun w' (t : Touch (fun _ => False) w w') => spacketP C sz vn vd vk vs vh w' (hp.keep t)
  have HPA : Hid (∀ w', Touch (fun _ => False) w w' → PkAt w' C vn vd vk vs vh) := fun w' t => hp.keep t
  have HHV := fun w' (t : Touch (fun _ => False) w w') => heavy_any (.slice none 0 0) _ 0 [x1, x2] _ none 0 rfl (by omega) (chain_lit w' [x1, x2] #[.int .u8 x1.p.id, .int .u16 x1.p.kind, .slice x1.a x1.p.sec.length x1.c, .int .i64 x1.p.sf, .int .i64 x1.p.su, .int .i64 x1.p.tf, .int .i64 x1.p.tu, .int .u8 x2.p.id, .int .u16 x2.p.kind, .slice x2.a x2.p.sec.length x2.c, .int .i64 x2.p.sf, .int .i64 x2.p.su, .int .i64 x2.p.tf, .int .i64 x2.p.tu] (by simp [chainC, KE.cells]) (by simp) (by intro x hx; rcases List.mem_cons.1 hx with rfl | hx; exact h1.keep t; rw [List.mem_singleton.1 hx]; exact h2.keep t)) (by intro x hx; rcases List.mem_cons.1 hx with rfl | hx; exact z1; rw [List.mem_singleton.1 hx]; exact z2) (by simp)
  obtain ⟨na, nc, da, dc, ka, kc, sa, sc, ha, hc, rfl, rfl, rfl, rfl, rfl⟩ := hp.forms
  have OK : Hid C.Ok := ok
  have H1 : Hid (∀ w', Touch (fun _ => False) w w' → x1.Ok w') := fun w' t => h1.keep t
  have H2 : Hid (∀ w', Touch (fun _ => False) w w' → x2.Ok w') := fun w' t => h2.keep t
  clear hp sz ok h1 h2 z1 z2
  unfold PV.v at HSZ ⊢
  obtain ⟨W0, hW0⟩ : ∃ W0, W0 = ((w.alloc (.cells #[.int .u8 C.P.typ, .int .u32 C.P.router, .int .u32 C.P.area, .int .u32 C.P.mask, .int .u16 C.P.iv, .int .u8 C.P.opts, .int .u8 C.P.prio, .int .u32 C.P.dead, .int .u32 C.P.dr, .int .u32 C.P.bdr, .slice na C.nb.length nc, .int .u16 C.P.mtu, .int .u8 C.P.dopts, .int .u8 C.P.dflags, .int .u32 C.P.dseq, .slice da C.dh.length dc, .slice ka C.ks.length kc, .slice sa C.ss.length sc, .slice ha C.hs.length hc] 33)).alloc (.cells #[.int .u8 x1.p.id, .int .u16 x1.p.kind, .slice x1.a x1.p.sec.length x1.c, .int .i64 x1.p.sf, .int .i64 x1.p.su, .int .i64 x1.p.tf, .int .i64 x1.p.tu] 56)).alloc (.cells #[.int .u8 x2.p.id, .int .u16 x2.p.kind, .slice x2.a x2.p.sec.length x2.c, .int .i64 x2.p.sf, .int .i64 x2.p.su, .int .i64 x2.p.tf, .int .i64 x2.p.tu] 56) := ⟨_, rfl⟩
  have T0 : Hid (Touch (fun _ => False) w W0) := by show Touch _ _ _; rw [hW0]; exact (((Touch.refl _ w).alloc _).alloc _).alloc _
  have R0 : Row W0 w.heap.size 33 [.int .u8 C.P.typ, .int .u32 C.P.router, .int .u32 C.P.area, .int .u32 C.P.mask, .int .u16 C.P.iv, .int .u8 C.P.opts, .int .u8 C.P.prio, .int .u32 C.P.dead, .int .u32 C.P.dr, .int .u32 C.P.bdr, .slice na C.nb.length nc, .int .u16 C.P.mtu, .int .u8 C.P.dopts, .int .u8 C.P.dflags, .int .u32 C.P.dseq, .slice da C.dh.length dc, .slice ka C.ks.length kc, .slice sa C.ss.length sc, .slice ha C.hs.length hc] := by
    have a := row_new w 33 #[.int .u8 C.P.typ, .int .u32 C.P.router, .int .u32 C.P.area, .int .u32 C.P.mask, .int .u16 C.P.iv, .int .u8 C.P.opts, .int .u8 C.P.prio, .int .u32 C.P.dead, .int .u32 C.P.dr, .int .u32 C.P.bdr, .slice na C.nb.length nc, .int .u16 C.P.mtu, .int .u8 C.P.dopts, .int .u8 C.P.dflags, .int .u32 C.P.dseq, .slice da C.dh.length dc, .slice ka C.ks.length kc, .slice sa C.ss.length sc, .slice ha C.hs.length hc]
    rw [hW0]
    exact (a.keep ((Touch.refl _ _).alloc _)).keep ((Touch.refl _ _).alloc _)
  have B1 : KBox W0 (w.heap.size + 1) x1.p.id (x1.p.kind) x1.a x1.p.sec.length x1.c x1.p.sf x1.p.su x1.p.tf x1.p.tu := by
    have a := kbox_new (w.alloc (.cells #[.int .u8 C.P.typ, .int .u32 C.P.router, .int .u32 C.P.area, .int .u32 C.P.mask, .int .u16 C.P.iv, .int .u8 C.P.opts, .int .u8 C.P.prio, .int .u32 C.P.dead, .int .u32 C.P.dr, .int .u32 C.P.bdr, .slice na C.nb.length nc, .int .u16 C.P.mtu, .int .u8 C.P.dopts, .int .u8 C.P.dflags, .int .u32 C.P.dseq, .slice da C.dh.length dc, .slice ka C.ks.length kc, .slice sa C.ss.length sc, .slice ha C.hs.length hc] 33)) x1.p.id x1.p.kind x1.a x1.p.sec.length x1.c x1.p.sf x1.p.su x1.p.tf x1.p.tu
    have e : (w.alloc (.cells #[.int .u8 C.P.typ, .int .u32 C.P.router, .int .u32 C.P.area, .int .u32 C.P.mask, .int .u16 C.P.iv, .int .u8 C.P.opts, .int .u8 C.P.prio, .int .u32 C.P.dead, .int .u32 C.P.dr, .int .u32 C.P.bdr, .slice na C.nb.length nc, .int .u16 C.P.mtu, .int .u8 C.P.dopts, .int .u8 C.P.dflags, .int .u32 C.P.dseq, .slice da C.dh.length dc, .slice ka C.ks.length kc, .slice sa C.ss.length sc, .slice ha C.hs.length hc] 33)).heap.size = w.heap.size + 1 := by simp
    rw [e] at a
    rw [hW0]
    exact a.keep ((Touch.refl _ _).alloc _)
  have B2 : KBox W0 (w.heap.size + 2) x2.p.id (x2.p.kind) x2.a x2.p.sec.length x2.c x2.p.sf x2.p.su x2.p.tf x2.p.tu := by
    have a := kbox_new ((w.alloc (.cells #[.int .u8 C.P.typ, .int .u32 C.P.router, .int .u32 C.P.area, .int .u32 C.P.mask, .int .u16 C.P.iv, .int .u8 C.P.opts, .int .u8 C.P.prio, .int .u32 C.P.dead, .int .u32 C.P.dr, .int .u32 C.P.bdr, .slice na C.nb.length nc, .int .u16 C.P.mtu, .int .u8 C.P.dopts, .int .u8 C.P.dflags, .int .u32 C.P.dseq, .slice da C.dh.length dc, .slice ka C.ks.length kc, .slice sa C.ss.length sc, .slice ha C.hs.length hc] 33)).alloc (.cells #[.int .u8 x1.p.id, .int .u16 x1.p.kind, .slice x1.a x1.p.sec.length x1.c, .int .i64 x1.p.sf, .int .i64 x1.p.su, .int .i64 x1.p.tf, .int .i64 x1.p.tu] 56)) x2.p.id x2.p.kind x2.a x2.p.sec.length x2.c x2.p.sf x2.p.su x2.p.tf x2.p.tu
    have e : ((w.alloc (.cells #[.int .u8 C.P.typ, .int .u32 C.P.router, .int .u32 C.P.area, .int .u32 C.P.mask, .int .u16 C.P.iv, .int .u8 C.P.opts, .int .u8 C.P.prio, .int .u32 C.P.dead, .int .u32 C.P.dr, .int .u32 C.P.bdr, .slice na C.nb.length nc, .int .u16 C.P.mtu, .int .u8 C.P.dopts, .int .u8 C.P.dflags, .int .u32 C.P.dseq, .slice da C.dh.length dc, .slice ka C.ks.length kc, .slice sa C.ss.length sc, .slice ha C.hs.length hc] 33)).alloc (.cells #[.int .u8 x1.p.id, .int .u16 x1.p.kind, .slice x1.a x1.p.sec.length x1.c, .int .i64 x1.p.sf, .int .i64 x1.p.su, .int .i64 x1.p.tf, .int .i64 x1.p.tu] 56)).heap.size = w.heap.size + 2 := by simp
    rw [e] at a
    rw [hW0]
    exact a
  have HR0 : Hid (∀ w', Touch (fun _ => False) W0 w' → Row w' w.heap.size 33 [.int .u8 C.P.typ, .int .u32 C.P.router, .int .u32 C.P.area, .int .u32 C.P.mask, .int .u16 C.P.iv, .int .u8 C.P.opts, .int .u8 C.P.prio, .int .u32 C.P.dead, .int .u32 C.P.dr, .int .u32 C.P.bdr, .slice na C.nb.length nc, .int .u16 C.P.mtu, .int .u8 C.P.dopts, .int .u8 C.P.dflags, .int .u32 C.P.dseq, .slice da C.dh.length dc, .slice ka C.ks.length kc, .slice sa C.ss.length sc, .slice ha C.hs.length hc] ∧ KBox w' (w.heap.size + 1) x1.p.id (x1.p.kind) x1.a x1.p.sec.length x1.c x1.p.sf x1.p.su x1.p.tf x1.p.tu ∧ KBox w' (w.heap.size + 2) x2.p.id (x2.p.kind) x2.a x2.p.sec.length x2.c x2.p.sf x2.p.su x2.p.tf x2.p.tu) := fun w' t => ⟨R0.keep t, B1.keep t, B2.keep t⟩
  have hg : (w.heap.size : Nat) ≤ w.heap.size := Nat.le_refl _
  clear R0 B1 B2
  go_enter Tryz.func4, Tryz.ntmps4
  go_upto_region 1 with fail
  rw [← hW0]
  clear hW0
  have hb2 : ∃ g2, g2 = w.heap.size := ⟨_, rfl⟩
  have HG : Hid (w.heap.size ≤ w.heap.size) := Nat.le_refl _
  obtain ⟨-, q1, q2⟩ := HR0.out W0 (Touch.refl _ _)
  have a0 := q1.c0
  have a1 := q1.c1
  have a2 := q1.c2
  have a3 := q1.c3
  have a4 := q1.c4
  have a5 := q1.c5
  have a6 := q1.c6
  have b0 := q2.c0
  have b1 := q2.c1
  have b2 := q2.c2
  have b3 := q2.c3
  have b4 := q2.c4
  have b5 := q2.c5
  have b6 := q2.c6
  clear q1 q2 hg hb2
  go_wp2_with fail
  refine Calls.mono (HHV W0 T0.out) ?_
  rintro e w1 ⟨hv, hw1⟩
  obtain ⟨b, rfl, hb⟩ := hv.out
  have T1 : Hid (Touch (fun _ => False) W0 w1) := by show Touch _ _ _; rw [← hw1]; exact (Touch.refl _ _).alloc _
  have HB : Hid (b = false → 0 + hsum [x1, x2] ≤ 131072) := hb
  clear hv hb hw1 HHV a0 a1 a2 a3 a4 a5 a6 b0 b1 b2 b3 b4 b5 b6
  cases b
  rotate_left
  · clear HB
    go_wp2_with fail
    refine (lives8 _).mono ?_
    rintro e wz ⟨rfl, tz⟩
    have T9 : Hid (Touch (fun _ => False) w wz) := (T0.out.trans T1.out).trans tz
    clear tz
    go_wp2_with fail
    go_ret
    exact ⟨rfl, T9.out⟩
  obtain ⟨hs1, hs2, hl1, hl2⟩ := hsum_two x1 x2 131072 (HB.out rfl)
  have HS : Hid (hsum [x1.pl] ≤ 131072 ∧ hsum [x2.pl] ≤ 131072 ∧ x1.p.sec.length ≤ 131072 ∧ x2.p.sec.length ≤ 131072) := ⟨hs1, hs2, hl1, hl2⟩
  clear HB hs1 hs2 hl1 hl2
  have R1 := (HR0.out w1 T1.out).1.range
  generalize hg2 : w.heap.size = g2 at *
  go_wp2_with (first | refine wpList_load_mid_g (by rfl) 33 (.tmp 3) rfl g2 0 rfl [.int .u8 C.P.typ, .int .u32 C.P.router, .int .u32 C.P.area, .int .u32 C.P.mask, .int .u16 C.P.iv, .int .u8 C.P.opts, .int .u8 C.P.prio, .int .u32 C.P.dead, .int .u32 C.P.dr, .int .u32 C.P.bdr, .slice na C.nb.length nc, .int .u16 C.P.mtu, .int .u8 C.P.dopts, .int .u8 C.P.dflags, .int .u32 C.P.dseq, .slice da C.dh.length dc, .slice ka C.ks.length kc, .slice sa C.ss.length sc, .slice ha C.hs.length hc] _ R1 Tryz.underlying33 rfl (by kernel_rfl) ?_)
  refine Calls.mono (HSZ w1 (T0.out.trans T1.out)) ?_
  rintro e w2 ⟨N, rfl, hN, t2⟩
  have T2 : Hid (Touch (fun _ => False) W0 w2) := T1.out.trans t2
  clear t2 R1 HSZ
  by_cases hN4 : 4096 < N
  · have hN4' : (4096 : Int) < (N : Int) := by omega
    clear hN
    go_wp2_with fail
    refine (lives8 _).mono ?_
    rintro e wz ⟨rfl, tz⟩
    have T9 : Hid (Touch (fun _ => False) w wz) := (T0.out.trans T2.out).trans tz
    clear tz
    go_wp2_with fail
    go_ret
    exact ⟨rfl, T9.out⟩
  have hN4' : ¬ (4096 : Int) < (N : Int) := by omega
  have HLT : Hid (C.Lt ∧ C.Ln) := hN (by omega)
  clear hN hN4
  obtain ⟨R2, K1, K2⟩ := HR0.out w2 T2.out
  have k1 := K1.c1
  have k2 := K2.c1
  have f1 : w2.frozen? ⟨g2 + 1, 1, none⟩ = false := Row.frozen K1 1
  have f2 : w2.frozen? ⟨g2 + 2, 1, none⟩ = false := Row.frozen K2 1
  have HK : Hid _ := And.intro R2 (And.intro K1 K2)
  clear R2 K1 K2
  go_upto_region 5 with fail
  obtain ⟨W4, hW4⟩ : ∃ W4, W4 = (w2.setCell ⟨g2 + 1, 1, none⟩ (.int .u16 1)).setCell ⟨g2 + 2, 1, none⟩ (.int .u16 1) := ⟨_, rfl⟩
  have T4 : Hid (Touch (fun _ => False) w W4) := by
    show Touch _ _ _
    rw [hW4]
    refine Touch.setCell (p := ⟨g2 + 2, 1, none⟩) ?_ (Or.inr (by show w.heap.size ≤ g2 + 2; omega)) _
    refine Touch.setCell (p := ⟨g2 + 1, 1, none⟩) ?_ (Or.inr (by show w.heap.size ≤ g2 + 1; omega)) _
    exact T0.out.trans T2.out
  have HR4 : Hid (∀ w', Touch (fun _ => False) W4 w' → Row w' g2 33 [.int .u8 C.P.typ, .int .u32 C.P.router, .int .u32 C.P.area, .int .u32 C.P.mask, .int .u16 C.P.iv, .int .u8 C.P.opts, .int .u8 C.P.prio, .int .u32 C.P.dead, .int .u32 C.P.dr, .int .u32 C.P.bdr, .slice na C.nb.length nc, .int .u16 C.P.mtu, .int .u8 C.P.dopts, .int .u8 C.P.dflags, .int .u32 C.P.dseq, .slice da C.dh.length dc, .slice ka C.ks.length kc, .slice sa C.ss.length sc, .slice ha C.hs.length hc] ∧ KBox w' (g2 + 1) x1.p.id 1 x1.a x1.p.sec.length x1.c x1.p.sf x1.p.su x1.p.tf x1.p.tu ∧ KBox w' (g2 + 2) x2.p.id 1 x2.a x2.p.sec.length x2.c x2.p.sf x2.p.su x2.p.tf x2.p.tu) := fun w' t => by
    obtain ⟨R2, K1, K2⟩ := HK.out
    have r : Row W4 g2 33 [.int .u8 C.P.typ, .int .u32 C.P.router, .int .u32 C.P.area, .int .u32 C.P.mask, .int .u16 C.P.iv, .int .u8 C.P.opts, .int .u8 C.P.prio, .int .u32 C.P.dead, .int .u32 C.P.dr, .int .u32 C.P.bdr, .slice na C.nb.length nc, .int .u16 C.P.mtu, .int .u8 C.P.dopts, .int .u8 C.P.dflags, .int .u32 C.P.dseq, .slice da C.dh.length dc, .slice ka C.ks.length kc, .slice sa C.ss.length sc, .slice ha C.hs.length hc] := by rw [hW4]; exact Row.other (Row.other R2 (p := ⟨g2 + 1, 1, none⟩) (by show ¬ g2 = g2 + 1; omega) _) (p := ⟨g2 + 2, 1, none⟩) (by show ¬ g2 = g2 + 2; omega) _
    have c1 : KBox W4 (g2 + 1) x1.p.id 1 x1.a x1.p.sec.length x1.c x1.p.sf x1.p.su x1.p.tf x1.p.tu := by rw [hW4]; exact Row.other (Row.set K1 1 (.int .u16 1)) (p := ⟨g2 + 2, 1, none⟩) (by show ¬ g2 + 1 = g2 + 2; omega) _
    have c2 : KBox W4 (g2 + 2) x2.p.id 1 x2.a x2.p.sec.length x2.c x2.p.sf x2.p.su x2.p.tf x2.p.tu := by rw [hW4]; exact Row.set (Row.other K2 (p := ⟨g2 + 1, 1, none⟩) (by show ¬ g2 + 2 = g2 + 1; omega) _) 1 (.int .u16 1)
    exact ⟨r.keep t, c1.keep t, c2.keep t⟩
  rw [← hW4]
  clear hW4 k1 k2 f1 f2 HK HR0 T0 T1 T2 hN4'
  have HL1 := fun w' (t : Touch (fun _ => False) w w') => given_any _ [x1.pl] _ (chain_lit w' [x1.pl] #[.int .u8 x1.p.id, .int .u16 1, .slice x1.a x1.p.sec.length x1.c, .int .i64 x1.p.sf, .int .i64 x1.p.su, .int .i64 x1.p.tf, .int .i64 x1.p.tu] (by simp [chainC, KE.cells, KE.pl]) (by simp) (by intro x hx; rw [List.mem_singleton.1 hx]; exact KE.pl_ok (H1.out w' t))) HS.out.1
  have HL2 := fun w' (t : Touch (fun _ => False) w w') => given_any _ [x2.pl] _ (chain_lit w' [x2.pl] #[.int .u8 x2.p.id, .int .u16 1, .slice x2.a x2.p.sec.length x2.c, .int .i64 x2.p.sf, .int .i64 x2.p.su, .int .i64 x2.p.tf, .int .i64 x2.p.tu] (by simp [chainC, KE.cells, KE.pl]) (by simp) (by intro x hx; rw [List.mem_singleton.1 hx]; exact KE.pl_ok (H2.out w' t))) HS.out.2.1
  obtain ⟨-, q1, -⟩ := HR4.out W4 (Touch.refl _ _)
  have a0 := q1.c0
  have a1 := q1.c1
  have a2 := q1.c2
  have a3 := q1.c3
  have a4 := q1.c4
  have a5 := q1.c5
  have a6 := q1.c6
  clear q1
  go_wp2_with fail
  refine Calls.mono (HL1 W4 T4.out) ?_
  rintro e w5 ⟨u1, l1, rfl, gv1⟩
  have T5 : Hid (Touch (fun _ => False) W4 w5) := ((Touch.refl _ W4).alloc _).trans gv1.buf.t
  have hs1 : pureL l1 = [x1.pl.p] := gv1.same
  have HG1 : Hid (∀ w', Touch (fun _ => False) w5 w' → ChainAt w' u1 l1) := fun w' t => (gv1.keep t).chain
  have hln1 : l1.length = 1 := gv1.len
  obtain ⟨ua1, uc1, eu1⟩ := gv1.buf.form
  rw [hln1] at eu1
  subst eu1
  have HN1 : Hid (pureL l1 = [x1.pl.p] ∧ l1.length = 1) := ⟨hs1, hln1⟩
  clear gv1 HL1 hs1 hln1 a0 a1 a2 a3 a4 a5 a6
  obtain ⟨-, -, q2⟩ := HR4.out w5 T5.out
  have b0 := q2.c0
  have b1 := q2.c1
  have b2 := q2.c2
  have b3 := q2.c3
  have b4 := q2.c4
  have b5 := q2.c5
  have b6 := q2.c6
  clear q2
  go_wp2_with fail
  refine Calls.mono (HL2 w5 (T4.out.trans T5.out)) ?_
  rintro e w6 ⟨u2, l2, rfl, gv2⟩
  have T6 : Hid (Touch (fun _ => False) w5 w6) := ((Touch.refl _ w5).alloc _).trans gv2.buf.t
  have hs2 : pureL l2 = [x2.pl.p] := gv2.same
  have HG2 : Hid (∀ w', Touch (fun _ => False) w6 w' → ChainAt w' u2 l2) := fun w' t => (gv2.keep t).chain
  have hln2 : l2.length = 1 := gv2.len
  obtain ⟨ua2, uc2, eu2⟩ := gv2.buf.form
  rw [hln2] at eu2
  subst eu2
  have HN2 : Hid (pureL l2 = [x2.pl.p] ∧ l2.length = 1) := ⟨hs2, hln2⟩
  clear gv2 HL2 hs2 hln2 b0 b1 b2 b3 b4 b5 b6
  have HC1 := achk_any (.slice ua1 1 uc1) l1 w6 (HG1.out w6 T6.out)
  rw [HN1.out.1] at HC1
  have HC2 := fun w' (t : Touch (fun _ => False) w6 w') => achk_any (.slice ua2 1 uc2) l2 w' (HG2.out w' t)
  rw [HN2.out.1] at HC2
  obtain ⟨E1, hE1⟩ : ∃ E1, E1 = achE [x1.pl.p] := ⟨_, rfl⟩
  obtain ⟨E2, hE2⟩ : ∃ E2, E2 = achE [x2.pl.p] := ⟨_, rfl⟩
  rw [← hE1] at HC1
  rw [← hE2] at HC2
  have HE1 : Hid (E1 = achE [x1.pl.p]) := hE1
  have HE2 : Hid (E2 = achE [x2.pl.p]) := hE2
  generalize achI [x1.pl.p] = I1 at HC1
  generalize achI [x2.pl.p] = I2 at HC2
  clear hE1 hE2
  go_wp2_with fail
  refine Calls.mono HC1 ?_
  rintro e w7 ⟨rfl, t7⟩
  go_wp2_with fail
  refine Calls.mono (HC2 w7 t7) ?_
  rintro e w8 ⟨rfl, t8⟩
  have T8 : Hid (Touch (fun _ => False) w6 w8) := t7.trans t8
  have TW8 : Hid (Touch (fun _ => False) W4 w8) := T5.out.trans (T6.out.trans T8.out)
  clear t7 t8 HC1 HC2
  have R8 := (HR4.out w8 TW8.out).1.range
  have HCP := fun w' (t : Touch (fun _ => False) w w') => cpacket C HLT.out.1 HLT.out.2 _ _ _ _ _ w' (HPA.out w' t)
  unfold PV.v at HCP
  go_wp2_with (first | refine wpList_load_mid rfl 33 (.tmp 3) rfl g2 0 rfl [.int .u8 C.P.typ, .int .u32 C.P.router, .int .u32 C.P.area, .int .u32 C.P.mask, .int .u16 C.P.iv, .int .u8 C.P.opts, .int .u8 C.P.prio, .int .u32 C.P.dead, .int .u32 C.P.dr, .int .u32 C.P.bdr, .slice na C.nb.length nc, .int .u16 C.P.mtu, .int .u8 C.P.dopts, .int .u8 C.P.dflags, .int .u32 C.P.dseq, .slice da C.dh.length dc, .slice ka C.ks.length kc, .slice sa C.ss.length sc, .slice ha C.hs.length hc] _ R8 Tryz.underlying33 rfl (by kernel_rfl) ?_)
  refine Calls.mono (HCP w8 (T4.out.trans TW8.out)) ?_
  rintro e w9 ⟨un, ud, uk, us, uh, rfl, ow9, t9⟩
  have HEN := penc_any C OK.out HLT.out.1 au00 au00_ok un ud uk us uh w9 (POwn.at_ ow9 OK.out)
  have T9 : Hid (Touch (fun _ => False) W4 w9) := TW8.out.trans t9
  have T69 : Hid (Touch (fun _ => False) w6 w9) := T8.out.trans t9
  obtain ⟨nna, nnc, nda, ndc, nka, nkc, nsa, nsc, nha, nhc, rfl, rfl, rfl, rfl, rfl⟩ := (POwn.at_ ow9 OK.out).forms
  clear ow9 t9 R8 HCP
  unfold PV.v AuV.v au00 at HEN
  obtain ⟨EP, hEP⟩ : ∃ EP, EP = pencE C ⟨0, 0, 0, 0, 0, 0, 0, 0, 0⟩ := ⟨_, rfl⟩
  obtain ⟨bB, hbB⟩ : ∃ bB, bB = pencB C ⟨0, 0, 0, 0, 0, 0, 0, 0, 0⟩ := ⟨_, rfl⟩
  rw [← hEP, ← hbB] at HEN
  have HEP : Hid (EP = pencE C au00) := hEP
  have HBB : Hid (bB = pencB C au00) := hbB
  clear hEP hbB
  go_wp2_with fail
  refine Calls.mono HEN ?_
  rintro e w10 ⟨vb, rfl, bf⟩
  have T10 : Hid (Touch (fun _ => False) W4 w10) := T9.out.trans bf.t
  have T610 : Hid (Touch (fun _ => False) w6 w10) := T69.out.trans bf.t
  have HBF : Hid (∀ w', Touch (fun _ => False) w10 w' → Buf w9 w' vb bB) := fun w' t => bf.keep t
  obtain ⟨ba, bc, rfl⟩ := bf.form
  clear bf HEN
  by_cases he1 : E1 = 0
  rotate_left
  · have he1' : (E1 == 0) = false := by simpa using he1
    go_wp2_with fail
    refine (lives8 _).mono ?_
    rintro e wz ⟨rfl, tz⟩
    have T9 : Hid (Touch (fun _ => False) w wz) := (T4.out.trans T10.out).trans tz
    clear tz
    go_wp2_with fail
    go_ret
    exact ⟨rfl, T9.out⟩
  by_cases he2 : E2 = 0
  rotate_left
  · have he2' : (E2 == 0) = false := by simpa using he2
    subst he1
    go_wp2_with fail
    refine (lives8 _).mono ?_
    rintro e wz ⟨rfl, tz⟩
    have T9 : Hid (Touch (fun _ => False) w wz) := (T4.out.trans T10.out).trans tz
    clear tz
    go_wp2_with fail
    go_ret
    exact ⟨rfl, T9.out⟩
  by_cases hep : EP = 0
  rotate_left
  · have hep' : (EP == 0) = false := by simpa using hep
    subst he1 he2
    go_wp2_with fail
    refine (lives8 _).mono ?_
    rintro e wz ⟨rfl, tz⟩
    have T9 : Hid (Touch (fun _ => False) w wz) := (T4.out.trans T10.out).trans tz
    clear tz
    go_wp2_with fail
    go_ret
    exact ⟨rfl, T9.out⟩
  subst he1 he2 hep
  have hpE : pencE C au00 = 0 := HEP.out.symm
  have ha1 : achE [x1.pl.p] = 0 := HE1.out.symm
  have ha2 : achE [x2.pl.p] = 0 := HE2.out.symm
  have RR := pround OK.out au00_ok hpE
  obtain ⟨cB, hcB⟩ : ∃ cB, cB = pencB C (auOf 1 (passB x1.p.sec)) := ⟨_, rfl⟩
  have SG : signE bB [x1.pl.p] x1.p.sf = 0 ∧ signB bB [x1.pl.p] x1.p.sf 0 = cB := by
    rw [HBB.out, hcB]
    exact sign_one OK.out hpE (k := x1.pl.p) ha1 rfl 0
  have hb1 : 0 ≤ x1.p.sf ∧ x1.p.sf ≤ x1.p.su ∧ 0 ≤ x1.p.tf ∧ x1.p.tf ≤ x1.p.tu ∧ x1.p.sec.length ≤ 8 := one_span (k := x1.pl.p) (one_ok ha1) rfl
  have hb2 : 0 ≤ x2.p.sf ∧ x2.p.sf ≤ x2.p.su ∧ 0 ≤ x2.p.tf ∧ x2.p.tf ≤ x2.p.tu ∧ x2.p.sec.length ≤ 8 := one_span (k := x2.pl.p) (one_ok ha2) rfl
  have sb1 := (H1.out w (Touch.refl _ _)).all.sec
  have RC : PRound C (auOf 1 (passB x1.p.sec)) cB := by
    rw [hcB]
    exact pround OK.out (auOf_ok (length_passB _) (by omega) (bp_passB_byte sb1)) (penc_other hpE (by simp [auOf]))
  have HOE : Hid (∀ now, openE cB [x2.pl.p] now = if (x2.pl.p.takes now && decide (passB x2.p.sec = passB x1.p.sec)) = true then 0 else 26) := fun now => by
    show _ = _
    rw [hcB]
    exact open_one OK.out hpE (length_passB _) (bp_passB_byte sb1) ha2 rfl now
  have HSG := asign_any (.slice ba bB.length bc) (.slice ua1 1 uc1) bB l1 x1.p.sf 0 w10 (HBF.out w10 (Touch.refl _ _)).arg (by rw [HBB.out]; exact RR.bt) (by rw [HBB.out]; have := RR.small; omega) (HG1.out w10 (T6.out.trans T610.out)) (by rw [HN1.out.2]; omega) (by omega)
  rw [HN1.out.1, SG.1, SG.2] at HSG
  have HCB : Hid ((∀ z ∈ cB, 0 ≤ z ∧ z < 256) ∧ cB.length ≤ 65535) := ⟨RC.bt, RC.small⟩
  have HB12 : Hid (x1.p.sec.length ≤ 8 ∧ x2.p.sec.length ≤ 8 ∧ 0 ≤ x2.p.tf ∧ x2.p.tf ≤ x2.p.tu ∧ x2.p.tf ≤ 9223372036854775807) := ⟨hb1.2.2.2.2, hb2.2.2.2.2, hb2.2.2.1, hb2.2.2.2.1, (H2.out w (Touch.refl _ _)).all.tf.2⟩
  clear hpE ha1 ha2 RR SG hb1 hb2 sb1 RC hcB HEP HE1 HE2 HBB OK HLT HPA
  obtain ⟨-, q1, -⟩ := HR4.out w10 T10.out
  have a3 := q1.c3
  clear q1
  go_wp2_with fail
  refine Calls.mono HSG ?_
  rintro e w11 ⟨vc, rfl, bfc⟩
  have TW11 : Hid (Touch (fun _ => False) W4 w11) := T10.out.trans bfc.t
  have T611 : Hid (Touch (fun _ => False) w6 w11) := T610.out.trans bfc.t
  have HBC : Hid (∀ w', Touch (fun _ => False) w11 w' → ArgAt w' vc cB) := fun w' t => (bfc.keep t).arg
  obtain ⟨ca, cc, rfl⟩ := bfc.form
  clear bfc HSG a3 HBF T10 T610 T9 T69 TW8 T8
  obtain ⟨-, q1, -⟩ := HR4.out w11 TW11.out
  have a2 := q1.c2
  clear q1
  have HX1 := cbytes_any (.slice x1.a x1.p.sec.length x1.c) x1.p.sec w11 (H1.out w11 (T4.out.trans TW11.out)).arg (by have := HB12.out.1; omega)
  go_wp2_with fail
  refine Calls.mono HX1 ?_
  rintro e w12 ⟨vx, rfl, bx⟩
  obtain ⟨-, -, q2⟩ := HR4.out w12 (TW11.out.trans bx.t)
  have b2 := q2.c2
  clear q2 a2 HX1
  have HX2 := cbytes_any (.slice x2.a x2.p.sec.length x2.c) x2.p.sec w12 (H2.out w12 (T4.out.trans (TW11.out.trans bx.t))).arg (by have := HB12.out.2.1; omega)
  have BX : Hid (Buf w11 w12 vx x1.p.sec) := bx
  clear bx
  go_wp2_with fail
  refine Calls.mono HX2 ?_
  rintro e w13 ⟨vy, rfl, b13⟩
  have TWO : Hid (Two8 w11 w13 vx vy x1.p.sec x2.p.sec) := two_new BX.out b13
  clear b13 BX HX2 b2
  go_wp2_with fail
  go_loopg [17] 8 (fun gg s17 wr => PadR w11 vy x1.p.sec x2.p.sec gg s17 wr)
  case atStart => exact ⟨0, by have := HB12.out.1; omega, by omega, by rw [List.replicate_zero, List.append_nil]; exact TWO.out⟩
  case round =>
    obtain ⟨j, hj, hgj, two⟩ := hrel.out
    have TJ : Hid _ := two
    obtain ⟨ax, cx, ex⟩ := two.x.form
    rw [List.length_append, List.length_replicate] at ex
    subst ex
    clear hrel two TWO
    by_cases hlt : x1.p.sec.length + j < 8
    · have hlt' : ((x1.p.sec.length + j : Nat) : Int) < 8 := by omega
      go_wp2_with (first | (refine two_app rfl (.tmp 90) (.tmp 91) rfl w11 _ vy _ _ rfl TJ.out 0 rfl (by rw [List.length_append, List.length_replicate]; omega) ?_; intro v' w' b'; have HB' : Hid _ := b'; clear b'))
      go_roundg (8 - (x1.p.sec.length + j + 1))
      case measure => omega
      case rel => exact ⟨j + 1, by omega, by omega, by rw [List.replicate_succ', ← List.append_assoc]; exact HB'.out⟩
    · have hlt' : ¬ ((x1.p.sec.length + j : Nat) : Int) < 8 := by omega
      have TJ2 : Hid (Two8 w11 wr vy (.slice ax (x1.p.sec.length + j) cx) x2.p.sec (passB x1.p.sec)) := by
        have e : j = 8 - x1.p.sec.length := by omega
        have t := TJ.out
        rw [e, ← passB_short HB12.out.1, ← e] at t
        exact t.swap
      clear TJ
      go_wp2_with fail
      clear hlt' hlt hj hgj
      generalize (Value.slice ax (x1.p.sec.length + j) cx) = vX at *
      go_loopg [18] 8 (fun gg s18 wr => PadR w11 vX x2.p.sec (passB x1.p.sec) gg s18 wr)
      case atStart => exact ⟨0, by have := HB12.out.2.1; omega, by omega, by rw [List.replicate_zero, List.append_nil]; exact TJ2.out⟩
      case round =>
        obtain ⟨i, hi, hgi, two⟩ := hrel.out
        have TI : Hid _ := two
        obtain ⟨ay, cy, ey⟩ := two.x.form
        rw [List.length_append, List.length_replicate] at ey
        subst ey
        clear hrel two TJ2
        by_cases hlt : x2.p.sec.length + i < 8
        · have hlt' : ((x2.p.sec.length + i : Nat) : Int) < 8 := by omega
          go_wp2_with (first | (refine two_app rfl (.tmp 96) (.tmp 97) rfl w11 _ vX _ _ rfl TI.out 0 rfl (by rw [List.length_append, List.length_replicate]; omega) ?_; intro v' w' b'; have HB' : Hid _ := b'; clear b'))
          go_roundg (8 - (x2.p.sec.length + i + 1))
          case measure => omega
          case rel => exact ⟨i + 1, by omega, by omega, by rw [List.replicate_succ', ← List.append_assoc]; exact HB'.out⟩
        · have hlt' : ¬ ((x2.p.sec.length + i : Nat) : Int) < 8 := by omega
          have TY : Hid (Two8 w11 wr (.slice ay (x2.p.sec.length + i) cy) vX (passB x2.p.sec) (passB x1.p.sec)) := by
            have e : i = 8 - x2.p.sec.length := by omega
            have t := TI.out
            rw [e, ← passB_short HB12.out.2.1, ← e] at t
            exact t
          have HOP : Hid (∀ w' v' now, ArgAt w' v' cB → Touch (fun _ => False) w6 w' → Calls Tryz.prog 15 #[v', .slice ua2 1 uc2, .int .i64 now] w' fun e w'' => e = .returned (.tuple #[.int .u32 (openS cB [x2.pl.p] now), .int .i64 (openN cB [x2.pl.p] now), .int .i64 (openE cB [x2.pl.p] now)]) ∧ Touch (fun _ => False) w' w'') := fun w' v' now ha ht => by
            have := aopen_any v' (.slice ua2 1 uc2) cB l2 now w' ha HCB.out.1 (by have := HCB.out.2; omega) (HG2.out w' ht) (by rw [HN2.out.2]; omega)
            rw [HN2.out.1] at this
            exact this
          have hI2 : openE cB [x2.pl.p] (x2.p.tf - 1) = 26 := by
            rw [HOE.out, if_neg]
            have e : x2.pl.p.takes (x2.p.tf - 1) = false := by
              show decide (x2.p.tf ≤ x2.p.tf - 1 ∧ x2.p.tf - 1 ≤ x2.p.tu) = false
              rw [decide_eq_false_iff_not]
              omega
            rw [e]
            simp
          have hI1 : openE cB [x2.pl.p] x2.p.tf = if passB x2.p.sec = passB x1.p.sec then 0 else 26 := by
            rw [HOE.out]
            have e : x2.pl.p.takes x2.p.tf = true := by
              show decide (x2.p.tf ≤ x2.p.tf ∧ x2.p.tf ≤ x2.p.tu) = true
              rw [decide_eq_true_iff]
              have := HB12.out
              omega
            rw [e, Bool.true_and]
            by_cases hq : passB x2.p.sec = passB x1.p.sec <;> simp [hq]
          have hwr : IntKind.i64.wrap (x2.p.tf - 1) = x2.p.tf - 1 := by have := HB12.out; exact IntWalk.i64_in _ (by omega)
          have HO1 := fun w' v' => HOP.out w' v' x2.p.tf
          have HO2 := fun w' v' => HOP.out w' v' (x2.p.tf - 1)
          rw [hI1] at HO1
          rw [hI2] at HO2
          generalize openS cB [x2.pl.p] x2.p.tf = s1 at HO1
          generalize openN cB [x2.pl.p] x2.p.tf = n1 at HO1
          generalize openS cB [x2.pl.p] (x2.p.tf - 1) = s2 at HO2
          generalize openN cB [x2.pl.p] (x2.p.tf - 1) = n2 at HO2
          have HEQ : Hid (∀ w' b, Touch (fun _ => False) wr w' → decide (passB x1.p.sec = passB x2.p.sec) = b → Calls Tryz.prog 16 #[vX, .slice ay (x2.p.sec.length + i) cy] w' fun e w'' => e = .returned (.bool b) ∧ Touch (fun _ => False) w' w'') := fun w' b t hb => by
            have two := TY.out.keep t
            exact eqb_any _ _ _ _ w' (by rw [length_passB, length_passB]) two.y.row two.x.row b hb
          have T14 : Hid (Touch (fun _ => False) w11 wr) := TY.out.x.t
          obtain ⟨-, -, q2⟩ := HR4.out wr (TW11.out.trans T14.out)
          have c5 := snA_cell q2.c5
          clear q2 TI TY hI1 hI2 HOP HOE hi hgi hlt
          by_cases hq : passB x2.p.sec = passB x1.p.sec
          · rw [if_pos hq] at HO1
            have HQB : Hid (decide (passB x1.p.sec = passB x2.p.sec) = true) := by show _ = _; rw [hq]; simp
            clear hq
            go_wp2_with fail
            refine wp_region_held_drew (S := fun w' => SnA wr w') (by kernel_rfl) (SnA.start wr) (fun hHeld => ?_)
            refine wpAnyH_take (i := 0) (oi := ⟨some 100, _, _, _, _, _⟩) (v := .slice ca cB.length cc) rfl (by kernel_rfl) (by kernel_rfl) (by kernel_rfl) (fun _ _ _ h => h) (Or.inl ⟨by rfl, fun w hw => by go_simp⟩) (by assumption) ?_
            simp only [Act.put, List.setIfInBounds_toArray, List.set_cons_zero, List.set_cons_succ]
            refine wpAnyH_take (i := 2) (oi := ⟨some 102, _, _, _, _, _⟩) (v := .slice ua2 1 uc2) rfl (by kernel_rfl) (by kernel_rfl) (by kernel_rfl) (fun _ _ _ h => h) (Or.inl ⟨by rfl, fun w hw => by go_simp⟩) (by assumption) ?_
            simp only [Act.put, List.setIfInBounds_toArray, List.set_cons_zero, List.set_cons_succ]
            refine wpAnyH_take (i := 3) (oi := ⟨some 103, _, _, _, _, _⟩) (v := .pointer (some ⟨g2 + 2, 5, none⟩)) rfl (by kernel_rfl) (by kernel_rfl) (by kernel_rfl) (fun _ _ _ h => h) (Or.inl ⟨by rfl, fun w hw => by go_simp⟩) (by assumption) ?_
            simp only [Act.put, List.setIfInBounds_toArray, List.set_cons_zero, List.set_cons_succ]
            refine wpAnyH_take (i := 4) (oi := ⟨some 104, _, _, _, _, _⟩) (v := .int .i64 x2.p.tf) rfl (by kernel_rfl) (by kernel_rfl) (by kernel_rfl) (fun _ _ _ h => h) (Or.inl ⟨by rfl, fun w hw => by go_simp⟩) (by assumption) ?_
            simp only [Act.put, List.setIfInBounds_toArray, List.set_cons_zero, List.set_cons_succ]
            refine wpAnyH_ready (rs := [1]) (by kernel_rfl) (by simp) ?_
            refine AllReadyH.cons (o := ⟨some 101, _, _, _, _, _⟩) rfl (fun K hK => ?_) AllReadyH.nil
            go_simp
            refine Calls.mono (cbytes_any _ cB _ (HBC.out _ (T14.out.trans (hHeld.t))) (by have := HCB.out.2; omega)) ?_
            rintro e wA100 ⟨vA100, rfl, bA⟩
            have hsA := hHeld.trans bA.t
            refine hK.out _ _ hsA (fun hHeld => ?_)
            clear hK K
            refine wpAnyH_ready (rs := [5]) (by kernel_rfl) (by simp) ?_
            refine AllReadyH.cons (o := ⟨some 105, _, _, _, _, _⟩) rfl (fun K hK => ?_) AllReadyH.nil
            go_simp
            refine Calls.mono (HO1 wA100 vA100 bA.arg (T611.out.trans (T14.out.trans (hsA.t)))) ?_
            rintro e wB100 ⟨rfl, tB⟩
            have TB100 : Hid (Touch (fun _ => False) wr wB100) := (hsA.t.trans tB)
            refine hK.out _ _ (hsA.trans tB) (fun hHeld => ?_)
            clear hK K tB hsA bA
            refine wpAnyH_take (i := 6) (oi := ⟨some 99, _, _, _, _, _⟩) (v := .tuple #[.int .u32 s1, .int .i64 n1, .int .i64 0]) rfl (by kernel_rfl) (by kernel_rfl) (by kernel_rfl) (fun _ _ _ h => h) (Or.inl ⟨by rfl, fun w hw => by go_simp⟩) (by assumption) ?_
            simp only [Act.put, List.setIfInBounds_toArray, List.set_cons_zero, List.set_cons_succ]
            refine wpAnyH_take (i := 7) (oi := ⟨some 106, _, _, _, _, _⟩) (v := .int .u32 s1) rfl (by kernel_rfl) (by kernel_rfl) (by kernel_rfl) (fun _ _ _ h => h) (Or.inl ⟨by rfl, fun w hw => by go_simp⟩) (by assumption) ?_
            simp only [Act.put, List.setIfInBounds_toArray, List.set_cons_zero, List.set_cons_succ]
            refine wpAnyH_take (i := 8) (oi := ⟨some 107, _, _, _, _, _⟩) (v := .int .i64 n1) rfl (by kernel_rfl) (by kernel_rfl) (by kernel_rfl) (fun _ _ _ h => h) (Or.inl ⟨by rfl, fun w hw => by go_simp⟩) (by assumption) ?_
            simp only [Act.put, List.setIfInBounds_toArray, List.set_cons_zero, List.set_cons_succ]
            refine wpAnyH_take (i := 9) (oi := ⟨some 108, _, _, _, _, _⟩) (v := .int .i64 0) rfl (by kernel_rfl) (by kernel_rfl) (by kernel_rfl) (fun _ _ _ h => h) (Or.inl ⟨by rfl, fun w hw => by go_simp⟩) (by assumption) ?_
            simp only [Act.put, List.setIfInBounds_toArray, List.set_cons_zero, List.set_cons_succ]
            refine wpAnyH_take (i := 10) (oi := ⟨some 19, _, _, _, _, _⟩) (v := .int .u32 s1) rfl (by kernel_rfl) (by kernel_rfl) (by kernel_rfl) (fun _ _ _ h => h) (Or.inl ⟨by rfl, fun w hw => by go_simp⟩) (by assumption) ?_
            simp only [Act.put, List.setIfInBounds_toArray, List.set_cons_zero, List.set_cons_succ]
            refine wpAnyH_take (i := 11) (oi := ⟨some 20, _, _, _, _, _⟩) (v := .int .i64 n1) rfl (by kernel_rfl) (by kernel_rfl) (by kernel_rfl) (fun _ _ _ h => h) (Or.inl ⟨by rfl, fun w hw => by go_simp⟩) (by assumption) ?_
            simp only [Act.put, List.setIfInBounds_toArray, List.set_cons_zero, List.set_cons_succ]
            refine wpAnyH_take (i := 12) (oi := ⟨some 21, _, _, _, _, _⟩) (v := .int .i64 0) rfl (by kernel_rfl) (by kernel_rfl) (by kernel_rfl) (fun _ _ _ h => h) (Or.inl ⟨by rfl, fun w hw => by go_simp⟩) (by assumption) ?_
            simp only [Act.put, List.setIfInBounds_toArray, List.set_cons_zero, List.set_cons_succ]
            refine wpAnyH_done (by kernel_rfl) ?_ _
            clear hHeld
            obtain ⟨-, -, q2⟩ := HR4.out wB100 (TW11.out.trans (T14.out.trans TB100.out))
            have d5 := snA_cell q2.c5
            clear q2 c5 HO1
            go_wp2_with fail
            refine wp_region_held_drew (S := fun w' => SnA wB100 w') (by kernel_rfl) (SnA.start wB100) (fun hHeld => ?_)
            refine wpAnyH_take (i := 0) (oi := ⟨some 110, _, _, _, _, _⟩) (v := .slice ca cB.length cc) rfl (by kernel_rfl) (by kernel_rfl) (by kernel_rfl) (fun _ _ _ h => h) (Or.inl ⟨by rfl, fun w hw => by go_simp⟩) (by assumption) ?_
            simp only [Act.put, List.setIfInBounds_toArray, List.set_cons_zero, List.set_cons_succ]
            refine wpAnyH_take (i := 2) (oi := ⟨some 112, _, _, _, _, _⟩) (v := .slice ua2 1 uc2) rfl (by kernel_rfl) (by kernel_rfl) (by kernel_rfl) (fun _ _ _ h => h) (Or.inl ⟨by rfl, fun w hw => by go_simp⟩) (by assumption) ?_
            simp only [Act.put, List.setIfInBounds_toArray, List.set_cons_zero, List.set_cons_succ]
            refine wpAnyH_take (i := 3) (oi := ⟨some 113, _, _, _, _, _⟩) (v := .pointer (some ⟨g2 + 2, 5, none⟩)) rfl (by kernel_rfl) (by kernel_rfl) (by kernel_rfl) (fun _ _ _ h => h) (Or.inl ⟨by rfl, fun w hw => by go_simp⟩) (by assumption) ?_
            simp only [Act.put, List.setIfInBounds_toArray, List.set_cons_zero, List.set_cons_succ]
            refine wpAnyH_take (i := 4) (oi := ⟨some 114, _, _, _, _, _⟩) (v := .int .i64 x2.p.tf) rfl (by kernel_rfl) (by kernel_rfl) (by kernel_rfl) (fun _ _ _ h => h) (Or.inl ⟨by rfl, fun w hw => by go_simp⟩) (by assumption) ?_
            simp only [Act.put, List.setIfInBounds_toArray, List.set_cons_zero, List.set_cons_succ]
            refine wpAnyH_take (i := 5) (oi := ⟨some 115, _, _, _, _, _⟩) (v := .int .i64 (x2.p.tf - 1)) rfl (by kernel_rfl) (by kernel_rfl) (by kernel_rfl) (fun _ _ _ h => h) (Or.inl ⟨by rfl, fun w hw => by go_simp <;> exact hwr⟩) (by assumption) ?_
            simp only [Act.put, List.setIfInBounds_toArray, List.set_cons_zero, List.set_cons_succ]
            refine wpAnyH_ready (rs := [1]) (by kernel_rfl) (by simp) ?_
            refine AllReadyH.cons (o := ⟨some 111, _, _, _, _, _⟩) rfl (fun K hK => ?_) AllReadyH.nil
            go_simp
            refine Calls.mono (cbytes_any _ cB _ (HBC.out _ (T14.out.trans (TB100.out.trans hHeld.t))) (by have := HCB.out.2; omega)) ?_
            rintro e wA110 ⟨vA110, rfl, bA⟩
            have hsA := hHeld.trans bA.t
            refine hK.out _ _ hsA (fun hHeld => ?_)
            clear hK K
            refine wpAnyH_ready (rs := [6]) (by kernel_rfl) (by simp) ?_
            refine AllReadyH.cons (o := ⟨some 116, _, _, _, _, _⟩) rfl (fun K hK => ?_) AllReadyH.nil
            go_simp
            refine Calls.mono (HO2 wA110 vA110 bA.arg (T611.out.trans (T14.out.trans (TB100.out.trans hsA.t)))) ?_
            rintro e wB110 ⟨rfl, tB⟩
            have TB110 : Hid (Touch (fun _ => False) wr wB110) := TB100.out.trans (hsA.t.trans tB)
            refine hK.out _ _ (hsA.trans tB) (fun hHeld => ?_)
            clear hK K tB hsA bA
            refine wpAnyH_take (i := 7) (oi := ⟨some 109, _, _, _, _, _⟩) (v := .tuple #[.int .u32 s2, .int .i64 n2, .int .i64 26]) rfl (by kernel_rfl) (by kernel_rfl) (by kernel_rfl) (fun _ _ _ h => h) (Or.inl ⟨by rfl, fun w hw => by go_simp⟩) (by assumption) ?_
            simp only [Act.put, List.setIfInBounds_toArray, List.set_cons_zero, List.set_cons_succ]
            refine wpAnyH_take (i := 8) (oi := ⟨some 117, _, _, _, _, _⟩) (v := .int .u32 s2) rfl (by kernel_rfl) (by kernel_rfl) (by kernel_rfl) (fun _ _ _ h => h) (Or.inl ⟨by rfl, fun w hw => by go_simp⟩) (by assumption) ?_
            simp only [Act.put, List.setIfInBounds_toArray, List.set_cons_zero, List.set_cons_succ]
            refine wpAnyH_take (i := 9) (oi := ⟨some 118, _, _, _, _, _⟩) (v := .int .i64 n2) rfl (by kernel_rfl) (by kernel_rfl) (by kernel_rfl) (fun _ _ _ h => h) (Or.inl ⟨by rfl, fun w hw => by go_simp⟩) (by assumption) ?_
            simp only [Act.put, List.setIfInBounds_toArray, List.set_cons_zero, List.set_cons_succ]
            refine wpAnyH_take (i := 10) (oi := ⟨some 119, _, _, _, _, _⟩) (v := .int .i64 26) rfl (by kernel_rfl) (by kernel_rfl) (by kernel_rfl) (fun _ _ _ h => h) (Or.inl ⟨by rfl, fun w hw => by go_simp⟩) (by assumption) ?_
            simp only [Act.put, List.setIfInBounds_toArray, List.set_cons_zero, List.set_cons_succ]
            refine wpAnyH_take (i := 11) (oi := ⟨some 22, _, _, _, _, _⟩) (v := .int .u32 s2) rfl (by kernel_rfl) (by kernel_rfl) (by kernel_rfl) (fun _ _ _ h => h) (Or.inl ⟨by rfl, fun w hw => by go_simp⟩) (by assumption) ?_
            simp only [Act.put, List.setIfInBounds_toArray, List.set_cons_zero, List.set_cons_succ]
            refine wpAnyH_take (i := 12) (oi := ⟨some 23, _, _, _, _, _⟩) (v := .int .i64 n2) rfl (by kernel_rfl) (by kernel_rfl) (by kernel_rfl) (fun _ _ _ h => h) (Or.inl ⟨by rfl, fun w hw => by go_simp⟩) (by assumption) ?_
            simp only [Act.put, List.setIfInBounds_toArray, List.set_cons_zero, List.set_cons_succ]
            refine wpAnyH_take (i := 13) (oi := ⟨some 24, _, _, _, _, _⟩) (v := .int .i64 26) rfl (by kernel_rfl) (by kernel_rfl) (by kernel_rfl) (fun _ _ _ h => h) (Or.inl ⟨by rfl, fun w hw => by go_simp⟩) (by assumption) ?_
            simp only [Act.put, List.setIfInBounds_toArray, List.set_cons_zero, List.set_cons_succ]
            refine wpAnyH_done (by kernel_rfl) ?_ _
            clear hHeld
            clear d5 HO2
            go_wp2_with fail
            refine Calls.mono (HEQ.out _ true TB110.out HQB.out) ?_
            rintro e wE ⟨rfl, tE⟩
            have TE : Hid (Touch (fun _ => False) w wE) := (T4.out.trans (TW11.out.trans (T14.out.trans TB110.out))).trans tE
            clear tE
            go_wp2_with fail
            refine (lives8 _).mono ?_
            rintro e wz ⟨rfl, tz⟩
            have T9 : Hid (Touch (fun _ => False) w wz) := TE.out.trans tz
            clear tz
            go_wp2_with fail
            go_ret
            exact ⟨rfl, T9.out⟩
          · rw [if_neg hq] at HO1
            have HQB : Hid (decide (passB x1.p.sec = passB x2.p.sec) = false) := by show _ = _; rw [decide_eq_false_iff_not]; exact fun e => hq e.symm
            clear hq
            go_wp2_with fail
            refine wp_region_held_drew (S := fun w' => SnA wr w') (by kernel_rfl) (SnA.start wr) (fun hHeld => ?_)
            refine wpAnyH_take (i := 0) (oi := ⟨some 100, _, _, _, _, _⟩) (v := .slice ca cB.length cc) rfl (by kernel_rfl) (by kernel_rfl) (by kernel_rfl) (fun _ _ _ h => h) (Or.inl ⟨by rfl, fun w hw => by go_simp⟩) (by assumption) ?_
            simp only [Act.put, List.setIfInBounds_toArray, List.set_cons_zero, List.set_cons_succ]
            refine wpAnyH_take (i := 2) (oi := ⟨some 102, _, _, _, _, _⟩) (v := .slice ua2 1 uc2) rfl (by kernel_rfl) (by kernel_rfl) (by kernel_rfl) (fun _ _ _ h => h) (Or.inl ⟨by rfl, fun w hw => by go_simp⟩) (by assumption) ?_
            simp only [Act.put, List.setIfInBounds_toArray, List.set_cons_zero, List.set_cons_succ]
            refine wpAnyH_take (i := 3) (oi := ⟨some 103, _, _, _, _, _⟩) (v := .pointer (some ⟨g2 + 2, 5, none⟩)) rfl (by kernel_rfl) (by kernel_rfl) (by kernel_rfl) (fun _ _ _ h => h) (Or.inl ⟨by rfl, fun w hw => by go_simp⟩) (by assumption) ?_
            simp only [Act.put, List.setIfInBounds_toArray, List.set_cons_zero, List.set_cons_succ]
            refine wpAnyH_take (i := 4) (oi := ⟨some 104, _, _, _, _, _⟩) (v := .int .i64 x2.p.tf) rfl (by kernel_rfl) (by kernel_rfl) (by kernel_rfl) (fun _ _ _ h => h) (Or.inl ⟨by rfl, fun w hw => by go_simp⟩) (by assumption) ?_
            simp only [Act.put, List.setIfInBounds_toArray, List.set_cons_zero, List.set_cons_succ]
            refine wpAnyH_ready (rs := [1]) (by kernel_rfl) (by simp) ?_
            refine AllReadyH.cons (o := ⟨some 101, _, _, _, _, _⟩) rfl (fun K hK => ?_) AllReadyH.nil
            go_simp
            refine Calls.mono (cbytes_any _ cB _ (HBC.out _ (T14.out.trans (hHeld.t))) (by have := HCB.out.2; omega)) ?_
            rintro e wA100 ⟨vA100, rfl, bA⟩
            have hsA := hHeld.trans bA.t
            refine hK.out _ _ hsA (fun hHeld => ?_)
            clear hK K
            refine wpAnyH_ready (rs := [5]) (by kernel_rfl) (by simp) ?_
            refine AllReadyH.cons (o := ⟨some 105, _, _, _, _, _⟩) rfl (fun K hK => ?_) AllReadyH.nil
            go_simp
            refine Calls.mono (HO1 wA100 vA100 bA.arg (T611.out.trans (T14.out.trans (hsA.t)))) ?_
            rintro e wB100 ⟨rfl, tB⟩
            have TB100 : Hid (Touch (fun _ => False) wr wB100) := (hsA.t.trans tB)
            refine hK.out _ _ (hsA.trans tB) (fun hHeld => ?_)
            clear hK K tB hsA bA
            refine wpAnyH_take (i := 6) (oi := ⟨some 99, _, _, _, _, _⟩) (v := .tuple #[.int .u32 s1, .int .i64 n1, .int .i64 26]) rfl (by kernel_rfl) (by kernel_rfl) (by kernel_rfl) (fun _ _ _ h => h) (Or.inl ⟨by rfl, fun w hw => by go_simp⟩) (by assumption) ?_
            simp only [Act.put, List.setIfInBounds_toArray, List.set_cons_zero, List.set_cons_succ]
            refine wpAnyH_take (i := 7) (oi := ⟨some 106, _, _, _, _, _⟩) (v := .int .u32 s1) rfl (by kernel_rfl) (by kernel_rfl) (by kernel_rfl) (fun _ _ _ h => h) (Or.inl ⟨by rfl, fun w hw => by go_simp⟩) (by assumption) ?_
            simp only [Act.put, List.setIfInBounds_toArray, List.set_cons_zero, List.set_cons_succ]
            refine wpAnyH_take (i := 8) (oi := ⟨some 107, _, _, _, _, _⟩) (v := .int .i64 n1) rfl (by kernel_rfl) (by kernel_rfl) (by kernel_rfl) (fun _ _ _ h => h) (Or.inl ⟨by rfl, fun w hw => by go_simp⟩) (by assumption) ?_
            simp only [Act.put, List.setIfInBounds_toArray, List.set_cons_zero, List.set_cons_succ]
            refine wpAnyH_take (i := 9) (oi := ⟨some 108, _, _, _, _, _⟩) (v := .int .i64 26) rfl (by kernel_rfl) (by kernel_rfl) (by kernel_rfl) (fun _ _ _ h => h) (Or.inl ⟨by rfl, fun w hw => by go_simp⟩) (by assumption) ?_
            simp only [Act.put, List.setIfInBounds_toArray, List.set_cons_zero, List.set_cons_succ]
            refine wpAnyH_take (i := 10) (oi := ⟨some 19, _, _, _, _, _⟩) (v := .int .u32 s1) rfl (by kernel_rfl) (by kernel_rfl) (by kernel_rfl) (fun _ _ _ h => h) (Or.inl ⟨by rfl, fun w hw => by go_simp⟩) (by assumption) ?_
            simp only [Act.put, List.setIfInBounds_toArray, List.set_cons_zero, List.set_cons_succ]
            refine wpAnyH_take (i := 11) (oi := ⟨some 20, _, _, _, _, _⟩) (v := .int .i64 n1) rfl (by kernel_rfl) (by kernel_rfl) (by kernel_rfl) (fun _ _ _ h => h) (Or.inl ⟨by rfl, fun w hw => by go_simp⟩) (by assumption) ?_
            simp only [Act.put, List.setIfInBounds_toArray, List.set_cons_zero, List.set_cons_succ]
            refine wpAnyH_take (i := 12) (oi := ⟨some 21, _, _, _, _, _⟩) (v := .int .i64 26) rfl (by kernel_rfl) (by kernel_rfl) (by kernel_rfl) (fun _ _ _ h => h) (Or.inl ⟨by rfl, fun w hw => by go_simp⟩) (by assumption) ?_
            simp only [Act.put, List.setIfInBounds_toArray, List.set_cons_zero, List.set_cons_succ]
            refine wpAnyH_done (by kernel_rfl) ?_ _
            clear hHeld
            obtain ⟨-, -, q2⟩ := HR4.out wB100 (TW11.out.trans (T14.out.trans TB100.out))
            have d5 := snA_cell q2.c5
            clear q2 c5 HO1
            go_wp2_with fail
            refine wp_region_held_drew (S := fun w' => SnA wB100 w') (by kernel_rfl) (SnA.start wB100) (fun hHeld => ?_)
            refine wpAnyH_take (i := 0) (oi := ⟨some 110, _, _, _, _, _⟩) (v := .slice ca cB.length cc) rfl (by kernel_rfl) (by kernel_rfl) (by kernel_rfl) (fun _ _ _ h => h) (Or.inl ⟨by rfl, fun w hw => by go_simp⟩) (by assumption) ?_
            simp only [Act.put, List.setIfInBounds_toArray, List.set_cons_zero, List.set_cons_succ]
            refine wpAnyH_take (i := 2) (oi := ⟨some 112, _, _, _, _, _⟩) (v := .slice ua2 1 uc2) rfl (by kernel_rfl) (by kernel_rfl) (by kernel_rfl) (fun _ _ _ h => h) (Or.inl ⟨by rfl, fun w hw => by go_simp⟩) (by assumption) ?_
            simp only [Act.put, List.setIfInBounds_toArray, List.set_cons_zero, List.set_cons_succ]
            refine wpAnyH_take (i := 3) (oi := ⟨some 113, _, _, _, _, _⟩) (v := .pointer (some ⟨g2 + 2, 5, none⟩)) rfl (by kernel_rfl) (by kernel_rfl) (by kernel_rfl) (fun _ _ _ h => h) (Or.inl ⟨by rfl, fun w hw => by go_simp⟩) (by assumption) ?_
            simp only [Act.put, List.setIfInBounds_toArray, List.set_cons_zero, List.set_cons_succ]
            refine wpAnyH_take (i := 4) (oi := ⟨some 114, _, _, _, _, _⟩) (v := .int .i64 x2.p.tf) rfl (by kernel_rfl) (by kernel_rfl) (by kernel_rfl) (fun _ _ _ h => h) (Or.inl ⟨by rfl, fun w hw => by go_simp⟩) (by assumption) ?_
            simp only [Act.put, List.setIfInBounds_toArray, List.set_cons_zero, List.set_cons_succ]
            refine wpAnyH_take (i := 5) (oi := ⟨some 115, _, _, _, _, _⟩) (v := .int .i64 (x2.p.tf - 1)) rfl (by kernel_rfl) (by kernel_rfl) (by kernel_rfl) (fun _ _ _ h => h) (Or.inl ⟨by rfl, fun w hw => by go_simp <;> exact hwr⟩) (by assumption) ?_
            simp only [Act.put, List.setIfInBounds_toArray, List.set_cons_zero, List.set_cons_succ]
            refine wpAnyH_ready (rs := [1]) (by kernel_rfl) (by simp) ?_
            refine AllReadyH.cons (o := ⟨some 111, _, _, _, _, _⟩) rfl (fun K hK => ?_) AllReadyH.nil
            go_simp
            refine Calls.mono (cbytes_any _ cB _ (HBC.out _ (T14.out.trans (TB100.out.trans hHeld.t))) (by have := HCB.out.2; omega)) ?_
            rintro e wA110 ⟨vA110, rfl, bA⟩
            have hsA := hHeld.trans bA.t
            refine hK.out _ _ hsA (fun hHeld => ?_)
            clear hK K
            refine wpAnyH_ready (rs := [6]) (by kernel_rfl) (by simp) ?_
            refine AllReadyH.cons (o := ⟨some 116, _, _, _, _, _⟩) rfl (fun K hK => ?_) AllReadyH.nil
            go_simp
            refine Calls.mono (HO2 wA110 vA110 bA.arg (T611.out.trans (T14.out.trans (TB100.out.trans hsA.t)))) ?_
            rintro e wB110 ⟨rfl, tB⟩
            have TB110 : Hid (Touch (fun _ => False) wr wB110) := TB100.out.trans (hsA.t.trans tB)
            refine hK.out _ _ (hsA.trans tB) (fun hHeld => ?_)
            clear hK K tB hsA bA
            refine wpAnyH_take (i := 7) (oi := ⟨some 109, _, _, _, _, _⟩) (v := .tuple #[.int .u32 s2, .int .i64 n2, .int .i64 26]) rfl (by kernel_rfl) (by kernel_rfl) (by kernel_rfl) (fun _ _ _ h => h) (Or.inl ⟨by rfl, fun w hw => by go_simp⟩) (by assumption) ?_
            simp only [Act.put, List.setIfInBounds_toArray, List.set_cons_zero, List.set_cons_succ]
            refine wpAnyH_take (i := 8) (oi := ⟨some 117, _, _, _, _, _⟩) (v := .int .u32 s2) rfl (by kernel_rfl) (by kernel_rfl) (by kernel_rfl) (fun _ _ _ h => h) (Or.inl ⟨by rfl, fun w hw => by go_simp⟩) (by assumption) ?_
            simp only [Act.put, List.setIfInBounds_toArray, List.set_cons_zero, List.set_cons_succ]
            refine wpAnyH_take (i := 9) (oi := ⟨some 118, _, _, _, _, _⟩) (v := .int .i64 n2) rfl (by kernel_rfl) (by kernel_rfl) (by kernel_rfl) (fun _ _ _ h => h) (Or.inl ⟨by rfl, fun w hw => by go_simp⟩) (by assumption) ?_
            simp only [Act.put, List.setIfInBounds_toArray, List.set_cons_zero, List.set_cons_succ]
            refine wpAnyH_take (i := 10) (oi := ⟨some 119, _, _, _, _, _⟩) (v := .int .i64 26) rfl (by kernel_rfl) (by kernel_rfl) (by kernel_rfl) (fun _ _ _ h => h) (Or.inl ⟨by rfl, fun w hw => by go_simp⟩) (by assumption) ?_
            simp only [Act.put, List.setIfInBounds_toArray, List.set_cons_zero, List.set_cons_succ]
            refine wpAnyH_take (i := 11) (oi := ⟨some 22, _, _, _, _, _⟩) (v := .int .u32 s2) rfl (by kernel_rfl) (by kernel_rfl) (by kernel_rfl) (fun _ _ _ h => h) (Or.inl ⟨by rfl, fun w hw => by go_simp⟩) (by assumption) ?_
            simp only [Act.put, List.setIfInBounds_toArray, List.set_cons_zero, List.set_cons_succ]
            refine wpAnyH_take (i := 12) (oi := ⟨some 23, _, _, _, _, _⟩) (v := .int .i64 n2) rfl (by kernel_rfl) (by kernel_rfl) (by kernel_rfl) (fun _ _ _ h => h) (Or.inl ⟨by rfl, fun w hw => by go_simp⟩) (by assumption) ?_
            simp only [Act.put, List.setIfInBounds_toArray, List.set_cons_zero, List.set_cons_succ]
            refine wpAnyH_take (i := 13) (oi := ⟨some 24, _, _, _, _, _⟩) (v := .int .i64 26) rfl (by kernel_rfl) (by kernel_rfl) (by kernel_rfl) (fun _ _ _ h => h) (Or.inl ⟨by rfl, fun w hw => by go_simp⟩) (by assumption) ?_
            simp only [Act.put, List.setIfInBounds_toArray, List.set_cons_zero, List.set_cons_succ]
            refine wpAnyH_done (by kernel_rfl) ?_ _
            clear hHeld
            clear d5 HO2
            go_wp2_with fail
            refine Calls.mono (HEQ.out _ false TB110.out HQB.out) ?_
            rintro e wE ⟨rfl, tE⟩
            have TE : Hid (Touch (fun _ => False) w wE) := (T4.out.trans (TW11.out.trans (T14.out.trans TB110.out))).trans tE
            clear tE
            go_wp2_with fail
            refine (lives8 _).mono ?_
            rintro e wz ⟨rfl, tz⟩
            have T9 : Hid (Touch (fun _ => False) w wz) := TE.out.trans tz
            clear tz
            go_wp2_with fail
            go_ret
            exact ⟨rfl, T9.out⟩
end Go.Proofs.YtjjgbcjgmjggnaaGreat
